package seal

import (
	"bytes"
	"encoding/hex"
	"math/rand"
	"slices"
	"testing"

	"tollhouse/api"
	"tollhouse/crc"
)

// noise is n bytes, none of them 00, the same in every run.
func noise(n int) []byte {
	lot := rand.New(rand.NewSource(int64(n) + 1))
	b := make([]byte, n)
	for i := range b {
		b[i] = byte(1 + lot.Intn(255))
	}
	return b
}

// bodies are those that a sector may have: none, short ones, and such as just fit.
func bodies() [][]byte {
	return [][]byte{
		nil, {}, {0}, {1}, {0xff}, noise(2), noise(9), noise(20), noise(28), noise(29),
		make([]byte, 28), make([]byte, 29), bytes.Repeat([]byte{0xff}, 29), append(make([]byte, 28), 1), append(noise(28), 0),
	}
}

// byWords is the sector, byte by byte as the chapter's words have it; of mark 0 too, and sealed.
func byWords(mark byte, body []byte) api.Block {
	b := []byte{mark}
	b = append(b, body...)
	for len(b) < 30 {
		b = append(b, 0)
	}
	check := crc.Check(b)
	return api.Block(append(b, byte(check%256), byte(check/256)))
}

// made is the sector of that mark and body.
func made(t *testing.T, mark byte, body []byte) api.Block {
	t.Helper()
	b, e := Encode(mark, body)
	if e != api.OK {
		t.Fatalf("mark %02x, body %x: error %d", mark, body, e)
	}
	return b
}

// wantNone holds b against being no sector.
func wantNone(t *testing.T, b api.Block, what string) {
	t.Helper()
	if s, e := Decode(b); s != (Sector{}) || e != api.ErrForm {
		t.Errorf("%s, %x: %v, error %d", what, b, s, e)
	}
}

// known are sectors whose checks come from elsewhere (Python's crc_hqx of the bits in reverse).
func known() []struct{ body, sector string } {
	return []struct{ body, sector string }{
		{"", "010000000000000000000000000000000000000000000000000000000000587d"},
		{"010000000000000001", "4c0100000000000000010000000000000000000000000000000000000000fb63"},
		{"616263", "576162630000000000000000000000000000000000000000000000000000891b"},
		{"ffffffffffffffffffffffffffffffffffffffffffffffffffffffffff", "ffffffffffffffffffffffffffffffffffffffffffffffffffffffffffff0542"},
		{"0102030405060708090a0b0c0d0e0f101112131415161718191a1b1c1d", "800102030405060708090a0b0c0d0e0f101112131415161718191a1b1c1d9afc"},
		{"0000000000000000000000000000000000000000000000000000000001", "020000000000000000000000000000000000000000000000000000000001c40d"},
	}
}

// unhex is the bytes of those digits.
func unhex(t *testing.T, s string) []byte {
	t.Helper()
	b, err := hex.DecodeString(s)
	if err != nil {
		t.Fatal(err)
	}
	return b
}

// P6.1: known sectors, both ways.
func TestKnown(t *testing.T) {
	for _, x := range known() {
		body, sector := unhex(t, x.body), api.Block(unhex(t, x.sector))
		if got := made(t, sector[0], body); got != sector {
			t.Errorf("%x, want %x", got, sector)
		}
		want := Sector{Mark: sector[0]}
		copy(want.Body[:], body)
		if got, e := Decode(sector); got != want || e != api.OK {
			t.Errorf("%x: %v, error %d", sector, got, e)
		}
	}
}

// P6.1: each mark but 0 with each body: each byte at its place.
func TestEncodePlaces(t *testing.T) {
	for mark := 1; mark < 256; mark++ {
		for _, body := range bodies() {
			b := made(t, byte(mark), body)
			if b[0] != byte(mark) {
				t.Errorf("mark %02x: %02x", mark, b[0])
			}
			if !bytes.Equal(b[1:1+len(body)], body) {
				t.Errorf("mark %02x, body %x: %x", mark, body, b)
			}
			if !bytes.Equal(b[1+len(body):30], make([]byte, 29-len(body))) {
				t.Errorf("mark %02x, body %x: the zeros behind it: %x", mark, body, b)
			}
			check := crc.Check(b[:30])
			if b[30] != byte(check) || b[31] != byte(check>>8) {
				t.Errorf("mark %02x, body %x: the check %04x: %x", mark, body, check, b)
			}
		}
	}
}

// P6.1: bodies of each length.
func TestEncodeLengths(t *testing.T) {
	for n := range 40 {
		body := noise(n)
		want, wantE := api.Block{}, api.ErrArg
		if n <= 29 {
			want, wantE = byWords(0x4c, body), api.OK
		}
		if b, e := Encode(0x4c, body); b != want || e != wantE {
			t.Errorf("%d bytes: %x, error %d, want %x, error %d", n, b, e, want, wantE)
		}
	}
}

// P6.1: bodies that are too long have no sector, whatever their mark and their bytes.
func TestEncodeTooLong(t *testing.T) {
	for _, n := range []int{30, 31, 32, 33, 64, 255, 256, 257, 256 + 29, 1 << 16, 1<<16 + 1, 1 << 20} {
		for _, mark := range []byte{0, 1, 0x4c, 0xff} {
			for _, body := range [][]byte{noise(n), make([]byte, n)} {
				if b, e := Encode(mark, body); b != (api.Block{}) || e != api.ErrArg {
					t.Errorf("mark %02x, %d bytes: %x, error %d", mark, n, b, e)
				}
			}
		}
	}
}

// P6.1: mark 0 has no sector, whatever its body.
func TestEncodeNoMark(t *testing.T) {
	for _, body := range bodies() {
		if b, e := Encode(0, body); b != (api.Block{}) || e != api.ErrArg {
			t.Errorf("body %x: %x, error %d", body, b, e)
		}
	}
}

// P6.1: nil, an empty body and zeros are one.
func TestEncodeZeros(t *testing.T) {
	want := byWords(7, nil)
	for _, body := range [][]byte{nil, {}, noise(9)[:0], {0}, make([]byte, 28), make([]byte, 29)} {
		if b := made(t, 7, body); b != want {
			t.Errorf("body %x: %x, want %x", body, b, want)
		}
	}
}

// P6.2: Decode of Encode is the mark and the body, zeros behind it.
func TestDecodeOfEncode(t *testing.T) {
	for mark := 1; mark < 256; mark++ {
		for _, body := range bodies() {
			want := Sector{Mark: byte(mark)}
			copy(want.Body[:], body)
			s, e := Decode(made(t, byte(mark), body))
			if s != want || e != api.OK {
				t.Errorf("mark %02x, body %x: %v, error %d", mark, body, s, e)
			}
		}
	}
}

// P6.1: the chapter's example: a sector of zeros is none.
func TestDecodeZeros(t *testing.T) {
	wantNone(t, api.Block{}, "zeros")
}

// P6.1: a sector of mark 0 is none, though its check is right.
func TestDecodeNoMark(t *testing.T) {
	for _, body := range bodies() {
		wantNone(t, byWords(0, body), "mark 0")
	}
	for _, s := range []string{
		"000000000000000000000000000000000000000000000000000000000000ab5d",
		"0061626300000000000000000000000000000000000000000000000000000a9a",
	} {
		b := api.Block(unhex(t, s))
		if b != byWords(0, b[1:30]) {
			t.Errorf("the check of %x", b)
		}
		wantNone(t, b, "a known one of mark 0")
	}
}

// P6.1: the check's bytes swapped make no sector, but where they are alike.
func TestDecodeSwappedCheck(t *testing.T) {
	swapped := 0
	for mark := 1; mark < 256; mark++ {
		for _, body := range bodies() {
			b := made(t, byte(mark), body)
			if b[30] != b[31] {
				b[30], b[31] = b[31], b[30]
				wantNone(t, b, "swapped")
				swapped++
			}
		}
	}
	if swapped == 0 {
		t.Error("no check was swapped")
	}
}

// P6.1: of all checks that a mark and a body might have, one makes a sector.
func TestDecodeEachCheck(t *testing.T) {
	for _, body := range [][]byte{nil, []byte("abc"), noise(29)} {
		b := made(t, 0x57, body)
		right := uint16(b[30]) | uint16(b[31])<<8
		for check := range 1 << 16 {
			b[30], b[31] = byte(check), byte(check>>8)
			if uint16(check) != right {
				wantNone(t, b, "another check")
			} else if _, e := Decode(b); e != api.OK {
				t.Errorf("%x: error %d", b, e)
			}
		}
	}
}

// P6.2: each byte turned into each other value makes no sector.
func TestOneTurned(t *testing.T) {
	for _, mark := range []byte{1, 0x4c, 0x57, 0xff} {
		for _, body := range bodies() {
			b := made(t, mark, body)
			for i := range b {
				turned := b
				for x := range 256 {
					turned[i] = byte(x)
					if turned != b {
						wantNone(t, turned, "one byte turned")
					}
				}
			}
		}
	}
}

// P6.1: checks told otherwise (from 0, not turned in the end, of the body alone, of all 32 bytes) make no sector.
func TestDecodeOtherChecks(t *testing.T) {
	for _, body := range bodies() {
		b := byWords(0x4c, body)
		for what, check := range map[string]uint16{
			"from 0":     crc.More(0, b[:30]),
			"not turned": crc.More(0xffff, b[:30]),
			"of a body":  crc.Check(b[1:30]),
			"of all":     crc.Check(b[:]),
			"none":       0,
			"all ones":   0xffff,
		} {
			other := b
			other[30], other[31] = byte(check), byte(check>>8)
			if other != b {
				wantNone(t, other, what)
			}
		}
	}
}

// P6.1: blocks by lot: just those are sectors that Encode makes of what they begin with.
func TestLots(t *testing.T) {
	lot := rand.New(rand.NewSource(6))
	for range 20000 {
		var b api.Block
		lot.Read(b[:])
		if lot.Intn(2) == 0 {
			b = byWords(b[0]%3, b[1:30])
		}
		again, e := Encode(b[0], b[1:30])
		if e != api.OK || again != b {
			wantNone(t, b, "by lot")
			continue
		}
		want := Sector{Mark: b[0], Body: [29]byte(b[1:30])}
		if s, e := Decode(b); s != want || e != api.OK {
			t.Errorf("%x: %v, error %d", b, s, e)
		}
	}
}

// Rule 2: the body, its spare room included, is as it was, and what lies in that room is none of the body.
func TestEncodeChangesNothing(t *testing.T) {
	for n := range 40 {
		room := noise(64)
		ahead := slices.Clone(room)
		for _, mark := range []byte{0, 1, 0xff} {
			b, e := Encode(mark, room[3:3+n])
			if !bytes.Equal(room, ahead) {
				t.Errorf("mark %02x, %d bytes: %x", mark, n, room)
			}
			other, otherE := Encode(mark, slices.Clip(slices.Clone(ahead[3:3+n])))
			if b != other || e != otherE {
				t.Errorf("mark %02x, %d bytes: the spare room is looked at", mark, n)
			}
		}
	}
}

// Rule 2: the body is not kept: what was made of it stays as it is.
func TestEncodeKeepsNothing(t *testing.T) {
	body := []byte("abc")
	b := made(t, 5, body)
	s, e := Decode(b)
	body[0], b[2] = 'x', 'y'
	if e != api.OK || s.Body != [29]byte{'a', 'b', 'c'} || b != (api.Block{5, 'a', 'y', 'c', 30: b[30], 31: b[31]}) {
		t.Errorf("%v, error %d, %x", s, e, b)
	}
}

// Rule 4: an answer hangs on the arguments alone.
func TestNothingRemembered(t *testing.T) {
	want := byWords(5, []byte("abc"))
	for range 3 {
		if b := made(t, 5, []byte("abc")); b != want {
			t.Errorf("%x, want %x", b, want)
		}
		if s, e := Decode(want); s != (Sector{Mark: 5, Body: [29]byte{'a', 'b', 'c'}}) || e != api.OK {
			t.Errorf("%v, error %d", s, e)
		}
		Encode(0, noise(40))
		Encode(9, noise(29))
		Decode(api.Block{})
		Decode(byWords(9, noise(29)))
	}
}
