package reply_test

import (
	"bytes"
	"encoding/hex"
	"math"
	"math/rand"
	"slices"
	"testing"

	"tollhouse/api"
	"tollhouse/crc"
	"tollhouse/reply"
)

// dataOf are n bytes of Data.
func dataOf(n int) []byte {
	b := make([]byte, n)
	for i := range b {
		b[i] = byte(i*7 + 1)
	}
	return b
}

// lengths are such of Data that may be, at the edges.
func lengths() []int { return []int{0, 1, 2, 3, 31, 32, 33, 127, 128, 254, 255} }

// checked are the bytes, and a right check behind them.
func checked(b []byte) []byte {
	c := crc.Check(b)
	return append(slices.Clone(b), byte(c%256), byte(c/256))
}

// bytesOf are the reply's bytes as the chapter's words have them, whether it may be or not, with that count.
func bytesOf(r api.Reply, count int) []byte {
	var b []byte
	n := r.Id
	for range 4 {
		b = append(b, byte(n%256))
		n /= 256
	}
	b = append(b, byte(r.E), byte(count))
	return checked(append(b, r.Data...))
}

// rightBytes are those of a reply that may be.
func rightBytes(r api.Reply) []byte { return bytesOf(r, len(r.Data)) }

// readByWords is the reply that the bytes tell, and whether it may be, and its count and its check are right.
func readByWords(b []byte) (api.Reply, bool) {
	if len(b) < 8 || len(b) != 8+int(b[5]) || b[3] >= 128 {
		return api.Reply{}, false
	}
	r := api.Reply{Id: int(b[0]) + 256*int(b[1]) + 65536*int(b[2]) + 16777216*int(b[3]), E: api.Errno(b[4]), Data: b[6 : len(b)-2]}
	return r, bytes.Equal(b, checked(b[:len(b)-2]))
}

// alike tells whether the replies are the same.
func alike(a, b api.Reply) bool {
	return a.Id == b.Id && a.E == b.E && bytes.Equal(a.Data, b.Data)
}

// wantBytes holds Encode against the words, Decode against telling the reply again, and Join of it alone against its bytes.
func wantBytes(t *testing.T, r api.Reply) {
	t.Helper()
	want := rightBytes(r)
	if got, e := reply.Encode(r); e != api.OK || !bytes.Equal(got, want) {
		t.Errorf("%v: %x, error %d, want %x", r, got, e, want)
	}
	if got, e := reply.Join(r); e != api.OK || !bytes.Equal(got, want) {
		t.Errorf("joined: %v: %x, error %d, want %x", r, got, e, want)
	}
	wantReply(t, want, r)
}

// wantNoBytes holds Encode, and Join, against that the reply may not be.
func wantNoBytes(t *testing.T, r api.Reply) {
	t.Helper()
	if got, e := reply.Encode(r); e != api.ErrForm || len(got) != 0 {
		t.Errorf("%v: %x, error %d", r, got, e)
	}
	if got, e := reply.Join(r); e != api.ErrForm || len(got) != 0 {
		t.Errorf("joined: %v: %x, error %d", r, got, e)
	}
}

// wantReply holds Decode against that reply.
func wantReply(t *testing.T, b []byte, want api.Reply) {
	t.Helper()
	if got, e := reply.Decode(b); e != api.OK || !alike(got, want) {
		t.Errorf("%x: %v, error %d, want %v", b, got, e, want)
	}
}

// wantNone holds Decode against that the bytes are no reply's.
func wantNone(t *testing.T, b []byte) {
	t.Helper()
	if got, e := reply.Decode(b); e != api.ErrForm || got.Id != 0 || got.E != 0 || len(got.Data) != 0 {
		t.Errorf("%x: %v, error %d", b, got, e)
	}
}

// P17.1: known replies, whose checks come from elsewhere (Python's crc_hqx of the bits in reverse), both ways.
func TestKnown(t *testing.T) {
	for s, r := range map[string]api.Reply{
		"0000000000008ff7":         {},
		"010000000000a4f3":         {Id: 1},
		"01020304ff00405c":         {Id: 0x04030201, E: 255},
		"ffffff7f130161bfe3":       {Id: math.MaxInt32, E: api.ErrQueue, Data: []byte("a")},
		"000100000004646174612752": {Id: 256, Data: []byte("data")},
		"0700000000200102030405060708090a0b0c0d0e0f101112131415161718191a1b1c1d1e1f201ff6": {Id: 7, Data: []byte{1, 2, 3, 4, 5, 6, 7, 8, 9, 10, 11, 12, 13, 14, 15, 16, 17, 18, 19, 20, 21, 22, 23, 24, 25, 26, 27, 28, 29, 30, 31, 32}},
	} {
		want, err := hex.DecodeString(s)
		if err != nil {
			t.Fatal(err)
		}
		if got, e := reply.Encode(r); e != api.OK || !bytes.Equal(got, want) {
			t.Errorf("%v: %x, error %d, want %x", r, got, e, want)
		}
		wantReply(t, want, r)
	}
}

// P17.1: the chapter's example; nil and empty Data are one.
func TestWithoutData(t *testing.T) {
	for _, data := range [][]byte{nil, {}, dataOf(3)[:0]} {
		b, e := reply.Encode(api.Reply{Id: 3, E: 20, Data: data})
		if e != api.OK || len(b) != 8 || !bytes.Equal(b, rightBytes(api.Reply{Id: 3, E: 20})) {
			t.Errorf("%x, error %d", b, e)
		}
	}
}

// P17.1: Ids at the edges, and at the bounds of their bytes, the lowest first.
func TestIds(t *testing.T) {
	for _, id := range []int{0, 1, 127, 128, 255, 256, 65535, 65536, 1<<24 - 1, 1 << 24, 0x04030201, 1 << 30, math.MaxInt32 - 1, math.MaxInt32} {
		wantBytes(t, api.Reply{Id: id})
		wantBytes(t, api.Reply{Id: id, E: 24, Data: dataOf(32)})
	}
	for _, id := range []int{-1, -2, -256, 1 << 31, 1<<31 + 1, 1<<32 - 1, 1 << 32, 1<<32 + 1, -1 << 31, -1 << 32, math.MaxInt, math.MinInt, math.MinInt + 1} {
		wantNoBytes(t, api.Reply{Id: id})
		wantNoBytes(t, api.Reply{Id: id, E: 24, Data: dataOf(32)})
	}
}

// P17.1: each E that a byte holds, and others, whether api has them or not.
func TestErrors(t *testing.T) {
	for e := api.Errno(-300); e < 600; e++ {
		for _, data := range [][]byte{nil, dataOf(2)} {
			if e >= 0 && e <= 255 {
				wantBytes(t, api.Reply{Id: 9, E: e, Data: data})
			} else {
				wantNoBytes(t, api.Reply{Id: 9, E: e, Data: data})
			}
		}
	}
	for _, e := range []api.Errno{1 << 16, 1 << 32, 1<<32 + 1, -1 << 32, math.MaxInt, math.MinInt} {
		wantNoBytes(t, api.Reply{E: e})
	}
}

// P17.1: Data of each length up to some that are too long.
func TestData(t *testing.T) {
	for n := range 600 {
		if n <= 255 {
			wantBytes(t, api.Reply{Id: n, E: 5, Data: dataOf(n)})
			wantBytes(t, api.Reply{Data: make([]byte, n)})
		} else {
			wantNoBytes(t, api.Reply{Id: n, E: 5, Data: dataOf(n)})
			wantNoBytes(t, api.Reply{Data: make([]byte, n)})
		}
	}
	for _, n := range []int{1024, 65535, 65536, 1 << 20} {
		wantNoBytes(t, api.Reply{Data: make([]byte, n)})
	}
}

// P17.1: beginnings and ends of right bytes, more behind and ahead of them, with right checks, too.
func TestLengths(t *testing.T) {
	wantNone(t, nil)
	wantNone(t, []byte{})
	for _, n := range lengths() {
		all := rightBytes(api.Reply{Id: 77, E: 3, Data: dataOf(n)})
		for k := range all {
			wantNone(t, all[:k])
			wantNone(t, all[k+1:])
			if k != len(all)-2 {
				wantNone(t, checked(all[:k]))
			}
		}
		for _, k := range []int{1, 2, 3, 8, 255, 256, 257, 512} {
			wantNone(t, slices.Concat(all, make([]byte, k)))
			wantNone(t, slices.Concat(make([]byte, k), all))
			wantNone(t, checked(slices.Concat(all[:len(all)-2], make([]byte, k))))
			wantNone(t, checked(slices.Concat(all[:len(all)-2], dataOf(k))))
		}
		wantNone(t, append(slices.Clone(all), all...))
	}
	for _, n := range []int{1, 2, 7, 8, 9, 263, 264, 1 << 16} {
		wantNone(t, make([]byte, n))
	}
}

// P17.1: a right check behind a count that is wrong, among them such as are the right one but for a multiple of 256.
func TestWrongCounts(t *testing.T) {
	for _, n := range append(lengths(), 256, 257, 511, 512) {
		r := api.Reply{Id: 5, E: 1, Data: dataOf(n)}
		for count := range 256 {
			b := bytesOf(r, count)
			if count == n {
				wantReply(t, b, r)
			} else {
				wantNone(t, b)
			}
		}
	}
}

// P17.1: a right check behind an Id that is too great.
func TestWrongIds(t *testing.T) {
	for _, id := range []int{1 << 31, 1<<31 + 1, 1<<32 - 1, 0xc0000000} {
		wantNone(t, bytesOf(api.Reply{Id: id}, 0))
		wantNone(t, bytesOf(api.Reply{Id: id, E: 4, Data: dataOf(4)}, 4))
	}
}

// P17.1: each byte turned into each other value, with the check as it was: none; with a right check: the reply that it is then, or none.
func TestEachByte(t *testing.T) {
	for _, n := range []int{0, 1, 2, 32, 255} {
		r := api.Reply{Id: 0x01020304, E: 22, Data: dataOf(n)}
		ahead := rightBytes(r)
		for i := range ahead {
			for x := range 256 {
				b := slices.Clone(ahead)
				b[i] = byte(x)
				if b[i] != ahead[i] {
					wantNone(t, b)
				}
				b = checked(b[:len(b)-2])
				if want, ok := readByWords(b); ok {
					wantReply(t, b, want)
				} else {
					wantNone(t, b)
				}
			}
		}
	}
}

// P17.1: two neighboring bytes turned, by lot.
func TestTwoBytes(t *testing.T) {
	lot := rand.New(rand.NewSource(17))
	for _, n := range []int{0, 1, 32} {
		b := rightBytes(api.Reply{Id: 0x01020304, E: 22, Data: dataOf(n)})
		for i := range len(b) - 1 {
			for range 300 {
				x, y := byte(lot.Intn(255)+1), byte(lot.Intn(255)+1)
				b[i] ^= x
				b[i+1] ^= y
				wantNone(t, b)
				b[i] ^= x
				b[i+1] ^= y
			}
		}
	}
}

// P17.1, P17.2: replies by lot, such as may be and such as may not be.
func TestByLot(t *testing.T) {
	lot := rand.New(rand.NewSource(170))
	seen := map[bool]int{}
	for range 20000 {
		r := api.Reply{Id: int(lot.Int31()), E: api.Errno(lot.Intn(256)), Data: dataOf(lot.Intn(256))}
		lot.Read(r.Data)
		may := true
		switch lot.Intn(6) {
		case 0:
			r.Id = lot.Int() | 1<<31
			may = false
		case 1:
			r.E += 256
			may = false
		case 2:
			r.Data = append(r.Data, dataOf(256)...)
			may = false
		}
		seen[may]++
		if may {
			wantBytes(t, r)
		} else {
			wantNoBytes(t, r)
		}
	}
	if seen[true] < 1000 || seen[false] < 1000 {
		t.Error(seen)
	}
}

// replies are n of them, no two alike.
func replies(n int) []api.Reply {
	var all []api.Reply
	for i := range n {
		all = append(all, api.Reply{Id: i + 1, E: api.Errno(i % 30), Data: dataOf(i % 40)})
	}
	return all
}

// P17.1: Join of none, of one, of several, in order.
func TestJoin(t *testing.T) {
	if got, e := reply.Join(); e != api.OK || len(got) != 0 {
		t.Errorf("none: %x, error %d", got, e)
	}
	if got, e := reply.Join([]api.Reply{}...); e != api.OK || len(got) != 0 {
		t.Errorf("none: %x, error %d", got, e)
	}
	for n := range 50 {
		l := replies(n)
		var want []byte
		for _, r := range l {
			want = append(want, rightBytes(r)...)
		}
		if got, e := reply.Join(l...); e != api.OK || !bytes.Equal(got, want) {
			t.Errorf("%d: %x, error %d, want %x", n, got, e, want)
		}
	}
	same := api.Reply{Id: 4, Data: dataOf(2)}
	if got, e := reply.Join(same, same); e != api.OK || !bytes.Equal(got, slices.Repeat(rightBytes(same), 2)) {
		t.Errorf("twice the same: %x, error %d", got, e)
	}
	if got, e := reply.Join(replies(10000)...); e != api.OK || len(got) != 10000*8+10000/40*780 {
		t.Errorf("many: %d bytes, error %d", len(got), e)
	}
}

// P17.1: Join of several of which some may not be: the error, and nothing else, wherever they stand.
func TestJoinErrors(t *testing.T) {
	for _, wrong := range []api.Reply{{Id: -1}, {Id: 1 << 31}, {E: -1}, {E: 256}, {Data: make([]byte, 256)}} {
		for n := 1; n < 6; n++ {
			for i := range n {
				l := replies(n)
				l[i] = wrong
				if got, e := reply.Join(l...); e != api.ErrForm || len(got) != 0 {
					t.Errorf("%d of %d: %x, error %d", i, n, got, e)
				}
				l[n-1] = api.Reply{E: 300}
				if got, e := reply.Join(l...); e != api.ErrForm || len(got) != 0 {
					t.Errorf("%d, and the last of %d: %x, error %d", i, n, got, e)
				}
			}
		}
	}
}

// Rule 2: what is handed in is not changed, its spare room included, nor kept; what is told is new memory, its spare room too.
func TestMemory(t *testing.T) {
	want := api.Reply{Id: 6, E: 2, Data: dataOf(5)}
	room := append(rightBytes(want), 7, 8, 9)
	ahead := slices.Clone(room)
	first, e := reply.Decode(room[:len(room)-3])
	second, _ := reply.Decode(room[:len(room)-3])
	if e != api.OK || !alike(first, want) || !bytes.Equal(room, ahead) {
		t.Errorf("%v, error %d, %x", first, e, room)
	}
	all := first.Data[:cap(first.Data)]
	for i := range all {
		all[i] = 0x99
	}
	if !bytes.Equal(room, ahead) || !alike(second, want) {
		t.Errorf("%x, %v", room, second)
	}
	clear(room)
	if !alike(second, want) {
		t.Errorf("%v", second)
	}
	data := append(dataOf(5), 7, 8, 9)
	r := api.Reply{Id: 6, E: 2, Data: data[:5]}
	for _, tell := range []func() []byte{
		func() []byte { b, _ := reply.Encode(r); return b },
		func() []byte { b, _ := reply.Join(r); return b },
		func() []byte { b, _ := reply.Join(r, r, r); return b },
	} {
		first, second := tell(), tell()
		was := slices.Clone(second)
		first = first[:cap(first)]
		for i := range first {
			first[i] = 0x99
		}
		if !bytes.Equal(second, was) || !bytes.Equal(tell(), was) || !bytes.Equal(data, append(dataOf(5), 7, 8, 9)) {
			t.Errorf("%x, want %x, %x", second, was, data)
		}
	}
}
