package tag

import (
	"bytes"
	"crypto/sha256"
	"encoding/hex"
	"math/rand"
	"slices"
	"testing"

	"tollhouse/api"
	"tollhouse/sha"
)

// noise is n bytes, the same in every run.
func noise(n int) []byte {
	b := make([]byte, n)
	rand.New(rand.NewSource(int64(n) + 1)).Read(b)
	return b
}

// starts are digests to step from: all 00, all ff, and one with something in each byte.
func starts() []api.Digest {
	return []api.Digest{{}, api.Digest(bytes.Repeat([]byte{0xff}, 32)), api.Digest(noise(32))}
}

// library is the library's hash of h and the message.
func library(h api.Digest, message []byte) api.Digest {
	return api.Digest(sha256.Sum256(slices.Concat(h[:], message)))
}

// lists are records of many kinds: none, empty ones, equal ones, ones of a block and more.
func lists() [][][]byte {
	return [][][]byte{
		nil,
		{nil},
		{[]byte("a")},
		{nil, {}, nil},
		{[]byte("a"), []byte("a"), []byte("a")},
		{[]byte("a"), nil, []byte("b"), {}, []byte("c")},
		{noise(31), noise(32), noise(33), noise(63), noise(64), noise(65), noise(200)},
	}
}

// P3.1: the chapter's example, and short ones.
func TestSameKnown(t *testing.T) {
	for _, x := range []struct {
		a, b string
		want bool
	}{
		{"a", "", false},
		{"", "", true},
		{"a", "a", true},
		{"a", "b", false},
		{"ab", "ba", false},
		{"a", "aa", false},
		{"\x00", "", false},
		{"\x00", "\x00\x00", false},
		{"a", "a\x00", false},
		{"\x00a", "a", false},
		{"\x00", "\x80", false},
	} {
		if got := Same([]byte(x.a), []byte(x.b)); got != x.want {
			t.Errorf("%q and %q: %v, want %v", x.a, x.b, got, x.want)
		}
		if got := Same([]byte(x.b), []byte(x.a)); got != x.want {
			t.Errorf("%q and %q: %v, want %v", x.b, x.a, got, x.want)
		}
	}
}

// P3.1: nil and empty are one, and neither is like one byte.
func TestSameEmpty(t *testing.T) {
	empties := [][]byte{nil, {}, make([]byte, 0, 9), noise(9)[:0]}
	for i, a := range empties {
		for j, b := range empties {
			if !Same(a, b) {
				t.Errorf("rows %d and %d", i, j)
			}
		}
		if Same(a, []byte{0}) || Same([]byte{0}, a) {
			t.Errorf("row %d and one byte 00", i)
		}
	}
}

// P3.1: bytes and themselves, and the same bytes elsewhere.
func TestSameAlike(t *testing.T) {
	for _, n := range []int{1, 2, 31, 32, 33, 255, 256, 257, 1000} {
		b := noise(n)
		if !Same(b, b) || !Same(b, slices.Clone(b)) {
			t.Errorf("%d bytes", n)
		}
		// What lies behind a list's end is none of it.
		if !Same(append(slices.Clone(b), 1)[:n], append(slices.Clone(b), 2)[:n]) {
			t.Errorf("%d bytes: the spare room is looked at", n)
		}
	}
}

// P3.1: one byte turned, each of them by each bit, the first, those in the midst, the last.
func TestSameOneTurned(t *testing.T) {
	for _, n := range []int{1, 2, 3, 32, 65} {
		a, b := noise(n), noise(n)
		for i := range b {
			for bit := range 8 {
				b[i] ^= 1 << bit
				if Same(a, b) || Same(b, a) {
					t.Errorf("%d bytes: byte %d, bit %d", n, i, bit)
				}
				b[i] ^= 1 << bit
			}
		}
		if !Same(a, b) {
			t.Errorf("%d bytes, turned back", n)
		}
	}
}

// P3.1: several bytes turned do not make up for each other.
func TestSameManyTurned(t *testing.T) {
	a := noise(32)
	for i := range a {
		for j := range i {
			b := slices.Clone(a)
			b[i] ^= 0x5a
			b[j] ^= 0x5a
			if Same(a, b) {
				t.Errorf("bytes %d and %d", j, i)
			}
		}
	}
	all := slices.Clone(a)
	for i := range all {
		all[i] ^= 0xff
	}
	if Same(a, all) {
		t.Error("all bytes")
	}
}

// P3.1: more bytes and fewer, however many, and 00 among them.
func TestSameLengths(t *testing.T) {
	for _, n := range []int{1, 2, 32, 65} {
		b := noise(n)
		if Same(b, b[:n-1]) || Same(b[:n-1], b) || Same(b, b[1:]) || Same(b[1:], b) {
			t.Errorf("%d bytes, one fewer", n)
		}
		// Differences of 256 and 512 would be lost in a length of one byte.
		for _, more := range []int{1, 2, 255, 256, 257, 512} {
			longer := append(slices.Clone(b), make([]byte, more)...)
			if Same(b, longer) || Same(longer, b) {
				t.Errorf("%d bytes, %d more", n, more)
			}
		}
	}
	if Same(nil, make([]byte, 256)) || Same(make([]byte, 256), nil) {
		t.Error("none and 256 bytes 00")
	}
}

// P3.2: hashes known from elsewhere (sha256sum's): of 32 bytes 00, and of these with "abc" behind.
func TestStepKnown(t *testing.T) {
	for _, x := range []struct{ message, want string }{
		{"", "66687aadf862bd776c8fc18b8e9f8e20089714856ee233b3902a591d0d5f2925"},
		{"abc", "365aa7d8f7f9402c4b9434502b4cc89ddb09fe50d7cd95b493b834c62d5a5370"},
	} {
		got := Step(api.Digest{}, []byte(x.message))
		if hex.EncodeToString(got[:]) != x.want {
			t.Errorf("%q: %x, want %s", x.message, got, x.want)
		}
	}
}

// P3.2: messages of many lengths behind h, held against the library's hash and against sha's.
func TestStepLengths(t *testing.T) {
	for i, h := range starts() {
		for n := range 200 {
			message := noise(n)
			got := Step(h, message)
			if want := library(h, message); got != want {
				t.Errorf("start %d, %d bytes: %x, want %x", i, n, got, want)
			}
			if want := sha.Sum(h[:], message); got != want {
				t.Errorf("start %d, %d bytes: %x, by sha %x", i, n, got, want)
			}
		}
	}
}

// P3.2: no parts, and parts without bytes.
func TestStepEmptyParts(t *testing.T) {
	for i, h := range starts() {
		none := Step(h)
		if none != sha.Sum(h[:]) || none != library(h, nil) || none == h {
			t.Errorf("start %d, no parts: %x", i, none)
		}
		for j, parts := range [][][]byte{nil, {}, {nil}, {{}}, {nil, {}, nil}} {
			if Step(h, parts...) != none {
				t.Errorf("start %d, empty parts, row %d", i, j)
			}
		}
		b := noise(70)
		if Step(h, nil, b[:32], nil, []byte{}, b[32:], nil) != Step(h, b) {
			t.Errorf("start %d, empty parts between others", i)
		}
	}
}

// P3.2: where a message is cut does not matter; in which order its parts come does.
func TestStepCuts(t *testing.T) {
	for i, h := range starts() {
		for _, n := range []int{1, 23, 24, 31, 32, 33, 130} {
			b := noise(n)
			want := library(h, b)
			for j := range n + 1 {
				for k := j; k <= n; k += 7 {
					if Step(h, b[:j], b[j:k], b[k:]) != want {
						t.Errorf("start %d, %d bytes cut at %d and %d", i, n, j, k)
					}
				}
			}
			if Step(h, slices.Collect(slices.Chunk(b, 1))...) != want {
				t.Errorf("start %d, %d bytes one by one", i, n)
			}
		}
		b := noise(130)
		want := Step(h, b)
		if Step(h, b[65:], b[:65]) == want || Step(h, b[:65]) == want || Step(h, b[65:]) == want {
			t.Errorf("start %d, order and number of parts", i)
		}
	}
}

// P3.2: each byte of h and of the message counts.
func TestStepEachByte(t *testing.T) {
	h, message := api.Digest(noise(32)), noise(70)
	want := Step(h, message)
	for i := range h {
		turned := h
		turned[i] ^= 1
		if Step(turned, message) == want {
			t.Errorf("byte %d of h is not looked at", i)
		}
	}
	for i := range message {
		turned := slices.Clone(message)
		turned[i] ^= 1
		if Step(h, turned) == want {
			t.Errorf("byte %d of the message is not looked at", i)
		}
	}
	if Step(h, message) != want {
		t.Error("what was asked in between is remembered")
	}
}

// P3.2: a chain of no record has no link.
func TestChainEmpty(t *testing.T) {
	for i, h := range starts() {
		if links := Chain(h); len(links) != 0 {
			t.Errorf("start %d, no records: %x", i, links)
		}
		if links := Chain(h, nil...); len(links) != 0 {
			t.Errorf("start %d, nil: %x", i, links)
		}
		if links := Chain(h, [][]byte{}...); len(links) != 0 {
			t.Errorf("start %d, an empty list: %x", i, links)
		}
	}
}

// P3.2: a chain of one record is its Step, an empty record's too.
func TestChainOne(t *testing.T) {
	for i, h := range starts() {
		for _, record := range [][]byte{nil, {}, {0}, []byte("abc"), noise(64), noise(300)} {
			if got, want := Chain(h, record), library(h, record); len(got) != 1 || got[0] != want || got[0] != Step(h, record) {
				t.Errorf("start %d, %x: %x, want %x", i, record, got, want)
			}
		}
	}
}

// P3.2: each link is the Step from the one ahead of it, and there are as many as records.
func TestChainLinks(t *testing.T) {
	for i, h := range starts() {
		for j, records := range lists() {
			links := Chain(h, records...)
			if len(links) != len(records) {
				t.Fatalf("start %d, list %d: %d links of %d records", i, j, len(links), len(records))
			}
			ahead := h
			for k, record := range records {
				if links[k] != Step(ahead, record) || links[k] != library(ahead, record) {
					t.Errorf("start %d, list %d: link %d", i, j, k)
				}
				ahead = links[k]
			}
		}
	}
}

// P3.2: a chain of many records.
func TestChainMany(t *testing.T) {
	records := slices.Collect(slices.Chunk(noise(3000), 3))
	links := Chain(api.Digest{}, records...)
	if len(links) != 1000 {
		t.Fatalf("%d links", len(links))
	}
	var ahead api.Digest
	for i, record := range records {
		ahead = library(ahead, record)
		if links[i] != ahead {
			t.Fatalf("link %d", i)
		}
	}
}

// P3.2: what stands in a record, and where records are cut, is seen in its link and in all behind it, in none ahead.
func TestChainHoldsRecords(t *testing.T) {
	h := api.Digest(noise(32))
	records := [][]byte{noise(5), noise(6), noise(7), noise(8)}
	links := Chain(h, records...)
	for i := range records {
		other := slices.Clone(records)
		other[i] = append(slices.Clone(records[i]), 0)
		for k, link := range Chain(h, other...) {
			if (link == links[k]) != (k < i) {
				t.Errorf("record %d changed: link %d", i, k)
			}
		}
	}
	joined := Chain(h, slices.Concat(records...))
	if len(joined) != 1 || slices.Contains(links, joined[0]) {
		t.Error("records as one")
	}
	if swapped := Chain(h, records[1], records[0]); swapped[1] == links[1] {
		t.Error("the order of records")
	}
}

// P3.3: two lists one behind the other, cut at each place.
func TestChainCut(t *testing.T) {
	for i, h := range starts() {
		for j, records := range lists() {
			whole := Chain(h, records...)
			for k := range len(records) + 1 {
				first := Chain(h, records[:k]...)
				last := h
				if k > 0 {
					last = first[k-1]
				}
				second := Chain(last, records[k:]...)
				if !slices.Equal(slices.Concat(first, second), whole) {
					t.Errorf("start %d, list %d cut at %d", i, j, k)
				}
			}
		}
	}
}

// given is what is handed in: parts of one room, with spare room behind each and behind the list.
type given struct {
	room, roomAhead []byte
	list, listAhead [][]byte
}

func newGiven() given {
	room := noise(600)
	list := [][]byte{room[:10:100], room[100:164], room[200:255:300], nil, room[300:300:350], room[400:410], room[500:520]}
	return given{room, slices.Clone(room), list, slices.Clone(list)}
}

func (g given) check(t *testing.T, name string) {
	t.Helper()
	if !bytes.Equal(g.room, g.roomAhead) {
		t.Errorf("%s: the bytes", name)
	}
	for i, b := range g.list {
		ahead := g.listAhead[i]
		if len(b) != len(ahead) || cap(b) != cap(ahead) || cap(b) > 0 && &b[:1][0] != &ahead[:1][0] {
			t.Errorf("%s: part %d of the list", name, i)
		}
	}
}

// Rule 2: what is handed in stays as it is, its spare room too.
func TestChangesNothing(t *testing.T) {
	for n := range 6 {
		g := newGiven()
		h := api.Digest(noise(32))
		Step(h, g.list[:n]...)
		g.check(t, "Step")
		Chain(h, g.list[:n]...)
		g.check(t, "Chain")
		for _, a := range g.list {
			Same(a, g.list[n])
		}
		g.check(t, "Same")
		if h != api.Digest(noise(32)) {
			t.Error("h")
		}
	}
}

// Rule 2: what Chain tells is new memory, its spare room too.
func TestChainNewMemory(t *testing.T) {
	h, records := api.Digest(noise(32)), [][]byte{noise(32), noise(33), noise(34)}
	a, b := Chain(h, records...), Chain(h, records...)
	want := slices.Clone(b)
	clear(a[:cap(a)])
	if !slices.Equal(b, want) || !slices.Equal(Chain(h, records...), want) {
		t.Error("two answers share memory")
	}
	if !bytes.Equal(records[0], noise(32)) || h != api.Digest(noise(32)) {
		t.Error("the answer and an argument share memory")
	}
}

// Rule 2: what was handed in is not kept: the answer stays as it is when it changes.
func TestChainKeepsNothing(t *testing.T) {
	h, record := api.Digest(noise(32)), noise(40)
	links := Chain(h, record, record)
	want := slices.Clone(links)
	clear(record)
	if !slices.Equal(links, want) {
		t.Error("the links hang on what the records became")
	}
}

// h and the parts may be the same memory, and a and b overlap.
func TestSharedMemory(t *testing.T) {
	h := api.Digest(noise(32))
	if Step(h, h[:], h[:16]) != library(h, slices.Concat(noise(32), noise(32)[:16])) {
		t.Error("Step of h's own bytes")
	}
	links := Chain(h, h[:], h[:])
	if links[0] != library(h, noise(32)) || links[1] != library(links[0], noise(32)) {
		t.Error("Chain of h's own bytes")
	}
	row := bytes.Repeat([]byte{7}, 40)
	if !Same(row[:39], row[1:]) || Same(row[:38], row[1:]) {
		t.Error("Same of bytes that overlap")
	}
}
