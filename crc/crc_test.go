package crc

import (
	"bytes"
	"math/bits"
	"math/rand"
	"slices"
	"testing"
)

// noise is n bytes, the same in every run.
func noise(n int) []byte {
	b := make([]byte, n)
	rand.New(rand.NewSource(int64(n) + 1)).Read(b)
	return b
}

// checks are ones to go on from: the first of a message, those with one bit, and some with several.
func checks() []uint16 {
	list := []uint16{0, 0xffff, 0xff, 0xff00, 0x8408, 0x7bf7, 0x1234, 0xf0b8}
	for i := range 16 {
		list = append(list, 1<<i)
	}
	return list
}

// mirrored is More told the other way round: all bits in reverse, the highest first, by the polynomial 1021 (hexadecimal).
func mirrored(c uint16, b []byte) uint16 {
	m := bits.Reverse16(c)
	for _, x := range b {
		for i := range 8 {
			out := m>>15 == 1
			in := x>>i&1 == 1
			m <<= 1
			if out != in {
				m ^= 0x1021
			}
		}
	}
	return bits.Reverse16(m)
}

// P4.1: the chapter's example, and checks known from elsewhere (Python's crc_hqx of the bits in reverse).
func TestCheckKnown(t *testing.T) {
	counted := make([]byte, 256)
	for i := range counted {
		counted[i] = byte(i)
	}
	for _, x := range []struct {
		message string
		want    uint16
	}{
		{"123456789", 0x906e},
		{"", 0},
		{"\x00", 0xf078},
		{"\x01", 0xe1f1},
		{"\xff", 0xff00},
		{"a", 0x82f7},
		{"abc", 0x9e25},
		{"The quick brown fox jumps over the lazy dog", 0x9358},
		{string(make([]byte, 32)), 0xcd70},
		{string(bytes.Repeat([]byte{0xff}, 32)), 0xe051},
		{string(counted), 0x303c},
	} {
		if got := Check([]byte(x.message)); got != x.want {
			t.Errorf("%q: %04x, want %04x", x.message, got, x.want)
		}
	}
}

// P4.1: messages of many lengths, held against the mirrored check.
func TestCheckLengths(t *testing.T) {
	for _, n := range []int{0, 1, 2, 3, 15, 16, 17, 31, 32, 33, 255, 256, 257, 65535, 65536, 65537, 1 << 20} {
		b := noise(n)
		if got, want := Check(b), ^mirrored(0xffff, b); got != want {
			t.Errorf("%d bytes: %04x, want %04x", n, got, want)
		}
	}
}

// P4.1: no parts, and parts without bytes.
func TestCheckEmptyParts(t *testing.T) {
	if got := Check(); got != 0 {
		t.Errorf("no parts: %04x", got)
	}
	for i, parts := range [][][]byte{nil, {}, {nil}, {{}}, {nil, {}, nil}, {noise(9)[:0]}} {
		if got := Check(parts...); got != 0 {
			t.Errorf("empty parts, row %d: %04x", i, got)
		}
	}
	b := noise(70)
	if Check(nil, b[:32], nil, []byte{}, b[32:], nil) != Check(b) {
		t.Error("empty parts between others")
	}
}

// P4.1: where a message is cut does not matter.
func TestCheckCuts(t *testing.T) {
	for _, b := range [][]byte{[]byte("123456789"), noise(1), noise(2), noise(32), noise(33), noise(130)} {
		want := Check(b)
		for i := range len(b) + 1 {
			for j := i; j <= len(b); j++ {
				if got := Check(b[:i], b[i:j], b[j:]); got != want {
					t.Errorf("%d bytes cut at %d and %d: %04x, want %04x", len(b), i, j, got, want)
				}
			}
		}
		for n := 1; n <= len(b); n++ {
			if got := Check(slices.Collect(slices.Chunk(b, n))...); got != want {
				t.Errorf("%d bytes in parts of %d: %04x, want %04x", len(b), n, got, want)
			}
		}
	}
}

// P4.1: in which order parts come matters, and so does each of them.
func TestCheckOrder(t *testing.T) {
	b := []byte("123456789")
	want := Check(b)
	for i := 1; i < len(b); i++ {
		if Check(b[i:], b[:i]) == want || Check(b[:i]) == want || Check(b[i:]) == want {
			t.Errorf("cut at %d: order and number of parts", i)
		}
	}
}

// P4.1: 00 counts, ahead of a message, in it and behind it.
func TestCheckZeros(t *testing.T) {
	seen := map[uint16]int{}
	for n := range 300 {
		c := Check(make([]byte, n))
		if other, ok := seen[c]; ok {
			t.Errorf("%d bytes 00 and %d: %04x", other, n, c)
		}
		seen[c] = n
	}
	want := Check([]byte("ab"))
	for _, s := range []string{"\x00ab", "a\x00b", "ab\x00"} {
		if Check([]byte(s)) == want {
			t.Errorf("%q", s)
		}
	}
}

// P4.1: a message with its check behind, the lower byte first, has one check, whatever it is.
func TestCheckBehindMessage(t *testing.T) {
	for _, n := range []int{0, 1, 9, 32, 200} {
		b := noise(n)
		c := Check(b)
		if got := More(0xffff, append(b, byte(c), byte(c>>8))); got != 0xf0b8 {
			t.Errorf("%d bytes: %04x", n, got)
		}
	}
}

// P4.1: More known from elsewhere (Python's crc_hqx of the bits in reverse).
func TestMoreKnown(t *testing.T) {
	for _, x := range []struct {
		c    uint16
		b    string
		want uint16
	}{
		{0, "\x00", 0},
		{0, "\x01", 0x1189},
		{0, "\x80", 0x8408},
		{1, "\x00", 0x1189},
		{0x8000, "\x00", 0x0080},
		{0xff00, "\x00", 0x00ff},
		{0x00ff, "\xff", 0},
		{0xffff, "\xff", 0x00ff},
		{0x1234, "abc", 0x1b07},
		{0xffff, "123456789", 0x6f91},
	} {
		if got := More(x.c, []byte(x.b)); got != x.want {
			t.Errorf("%04x and %q: %04x, want %04x", x.c, x.b, got, x.want)
		}
	}
}

// P4.1: behind no bytes each check is as it was, without the turn in the end.
func TestMoreNoBytes(t *testing.T) {
	for c := range 1 << 16 {
		for i, b := range [][]byte{nil, {}, noise(9)[:0]} {
			if got := More(uint16(c), b); got != uint16(c) {
				t.Fatalf("%04x, row %d: %04x", c, i, got)
			}
		}
	}
}

// P4.1: one byte, each of them from several checks, and several of them from each check.
func TestMoreOneByte(t *testing.T) {
	hold := func(c uint16, x byte) {
		b := []byte{x}
		if got, want := More(c, b), mirrored(c, b); got != want {
			t.Errorf("%04x and %02x: %04x, want %04x", c, x, got, want)
		}
	}
	for _, c := range checks() {
		for x := range 256 {
			hold(c, byte(x))
		}
	}
	for c := range 1 << 16 {
		for _, x := range []byte{0, 1, 0x5a, 0x80, 0xff} {
			hold(uint16(c), x)
		}
	}
}

// P4.1: several bytes from several checks.
func TestMoreManyBytes(t *testing.T) {
	for _, c := range checks() {
		for n := range 100 {
			b := noise(n)
			if got, want := More(c, b), mirrored(c, b); got != want {
				t.Errorf("%04x and %d bytes: %04x, want %04x", c, n, got, want)
			}
		}
	}
}

// P4.1: two rows of bytes one behind the other: the second from what the first makes.
func TestMoreBehindMore(t *testing.T) {
	for _, c := range checks() {
		for _, n := range []int{0, 1, 2, 9, 32, 65} {
			b := noise(n)
			want := More(c, b)
			for i := range n + 1 {
				if got := More(More(c, b[:i]), b[i:]); got != want {
					t.Errorf("%04x and %d bytes cut at %d: %04x, want %04x", c, n, i, got, want)
				}
			}
		}
	}
}

// P4.1: Check is More from ffff, with all bits turned.
func TestCheckIsMoreTurned(t *testing.T) {
	for n := range 200 {
		b := noise(n)
		if got, want := Check(b), More(0xffff, b)^0xffff; got != want {
			t.Errorf("%d bytes: %04x, want %04x", n, got, want)
		}
		first, second := b[:n/3], b[n/3:]
		if got, want := Check(first, second), ^More(More(0xffff, first), second); got != want {
			t.Errorf("%d bytes in two parts: %04x, want %04x", n, got, want)
		}
	}
}

// P4.2: one byte turned, each of them by each number of a byte, makes another check.
func TestOneTurned(t *testing.T) {
	for _, n := range []int{1, 2, 3, 9, 32, 65} {
		b := noise(n)
		want := Check(b)
		for i := range b {
			for x := 1; x < 256; x++ {
				b[i] ^= byte(x)
				if Check(b) == want {
					t.Errorf("%d bytes: byte %d turned by %02x", n, i, x)
				}
				b[i] ^= byte(x)
			}
		}
		if Check(b) != want {
			t.Errorf("%d bytes, turned back", n)
		}
	}
}

// P4.2: two neighboring bytes turned, the first, those in the midst and the last, each in every way, make another check.
func TestNeighborsTurned(t *testing.T) {
	for _, n := range []int{2, 3, 9, 32} {
		b := noise(n)
		want := Check(b)
		for _, i := range []int{0, n/2 - 1, n - 2} {
			for x := 1; x < 1<<16; x++ {
				b[i] ^= byte(x)
				b[i+1] ^= byte(x >> 8)
				if Check(b) == want {
					t.Errorf("%d bytes: bytes %d and %d turned by %04x", n, i, i+1, x)
				}
				b[i] ^= byte(x)
				b[i+1] ^= byte(x >> 8)
			}
		}
		if Check(b) != want {
			t.Errorf("%d bytes, turned back", n)
		}
	}
}

// P4.2: neighbors in two parts are neighbors too.
func TestNeighborsInParts(t *testing.T) {
	b := noise(20)
	want := Check(b)
	for i := range len(b) - 1 {
		turned := slices.Clone(b)
		turned[i] ^= 0x81
		turned[i+1] ^= 0x42
		if Check(turned[:i+1], turned[i+1:]) == want {
			t.Errorf("bytes %d and %d", i, i+1)
		}
	}
}

// Rule 2: what is handed in stays as it is, its spare room and the list's too.
func TestChangesNothing(t *testing.T) {
	room := noise(600)
	list := [][]byte{room[:10:100], room[100:164], nil, room[200:255:300], room[300:300:350], room[400:410], room[500:520]}
	bytesAhead, listAhead := slices.Clone(room), slices.Clone(list)
	for n := range 6 {
		Check(list[:n]...)
		More(0x1234, list[n])
		if !bytes.Equal(room, bytesAhead) {
			t.Errorf("%d parts: the bytes", n)
		}
		for i, b := range list {
			ahead := listAhead[i]
			if len(b) != len(ahead) || cap(b) != cap(ahead) || cap(b) > 0 && &b[:1][0] != &ahead[:1][0] {
				t.Errorf("%d parts: part %d of the list", n, i)
			}
		}
	}
}

// What lies behind a list's end is none of it.
func TestSpareRoomIsNoByte(t *testing.T) {
	b := noise(40)
	want, more := Check(b[:32]), More(0x1234, b[:32])
	list := [][]byte{b[:32], b[32:]}
	clear(b[32:])
	if Check(b[:32]) != want || More(0x1234, b[:32]) != more {
		t.Error("bytes behind a part")
	}
	if Check(list[:1]...) != want {
		t.Error("a part behind the list")
	}
}

// Parts may be the same memory.
func TestSharedMemory(t *testing.T) {
	b := noise(32)
	if Check(b, b[8:], b) != Check(slices.Concat(b, b[8:], b)) {
		t.Error("one room, three parts")
	}
}

// Rule 4: an answer hangs on the arguments alone.
func TestNothingRemembered(t *testing.T) {
	b := []byte("123456789")
	for range 3 {
		if Check(b) != 0x906e || More(0xffff, b) != 0x6f91 {
			t.Error("what was asked in between is remembered")
		}
		More(0x1234, noise(5))
		Check(noise(7), noise(8))
	}
}
