package token_test

import (
	"bytes"
	"encoding/hex"
	"math"
	"math/rand"
	"slices"
	"strings"
	"testing"

	"tollhouse/api"
	"tollhouse/token"
)

// aTag is a tag whose bytes all differ, none of them 0.
func aTag() api.Digest {
	var d api.Digest
	for i := range d {
		d[i] = byte(0xc0 + i)
	}
	return d
}

// full is a claim whose bytes all differ.
func full() api.Claim {
	return api.Claim{Place: 2, Name: "wxyz", Rights: 3, Until: 0x14131211, Gen: 0x24232221}
}

// edges are numbers of four bytes at the bound of each of these.
func edges() []uint32 {
	return []uint32{0, 1, 255, 256, 65535, 65536, 1<<24 - 1, 1 << 24, 1<<31 - 1, 1 << 31, math.MaxUint32 - 1, math.MaxUint32, 0x04030201}
}

// digits are n's four bytes, the lowest first, told by division.
func digits(n uint32) []byte {
	var b []byte
	for range 4 {
		b = append(b, byte(n%256))
		n /= 256
	}
	return b
}

// bytesOf are a claim's bytes as the chapter's words have them, whether it may be or not.
func bytesOf(c api.Claim) []byte {
	return slices.Concat([]byte{byte(c.Place)}, []byte((c.Name + "\x00\x00\x00\x00")[:4]), []byte{byte(c.Rights)}, digits(c.Until), digits(c.Gen))
}

// isRightName is what the words of layer 10 say of a name.
func isRightName(name string) bool {
	return name != "" && len(name) < 5 && strings.Trim(name, "abcdefghijklmnopqrstuvwxyz") == ""
}

// mayBe is what the chapter's words say of a claim.
func mayBe(c api.Claim) bool {
	return slices.Contains([]int{0, 1, 2, 3}, c.Place) && (c.Name == "" || isRightName(c.Name)) && slices.Contains([]int{1, 2, 3}, c.Rights)
}

// readByWords is the token that the bytes tell, and whether it may be.
func readByWords(b []byte) (api.Token, bool) {
	if len(b) != 46 {
		return api.Token{}, false
	}
	var tok api.Token
	tok.Place = int(b[0])
	tok.Name = strings.TrimRight(string(b[1:5]), "\x00")
	tok.Rights = int(b[5])
	for i := range 4 {
		tok.Until += uint32(b[6+i]) << (8 * i)
		tok.Gen += uint32(b[10+i]) << (8 * i)
	}
	copy(tok.Tag[:], b[14:])
	return tok, mayBe(tok.Claim)
}

// wantBytes holds Claim, and Encode with several tags, against the words; and Decode against telling the token again.
func wantBytes(t *testing.T, c api.Claim) {
	t.Helper()
	want := bytesOf(c)
	if got, e := token.Claim(c); e != api.OK || !bytes.Equal(got, want) || len(got) != 14 {
		t.Errorf("%v: %x, error %d, want %x", c, got, e, want)
	}
	for _, tag := range []api.Digest{{}, aTag(), {0: 1}, {31: 1}} {
		tok := api.Token{Claim: c, Tag: tag}
		got, e := token.Encode(tok)
		if e != api.OK || !bytes.Equal(got, append(slices.Clone(want), tag[:]...)) || len(got) != 46 {
			t.Errorf("%v: %x, error %d", tok, got, e)
		}
		wantToken(t, got, tok)
	}
}

// wantNoBytes holds Claim and Encode against that the claim may not be.
func wantNoBytes(t *testing.T, c api.Claim) {
	t.Helper()
	if got, e := token.Claim(c); e != api.ErrForm || len(got) != 0 {
		t.Errorf("%v: %x, error %d", c, got, e)
	}
	for _, tag := range []api.Digest{{}, aTag()} {
		if got, e := token.Encode(api.Token{Claim: c, Tag: tag}); e != api.ErrForm || len(got) != 0 {
			t.Errorf("%v, %x: %x, error %d", c, tag, got, e)
		}
	}
}

// wantToken holds Decode against that token.
func wantToken(t *testing.T, b []byte, want api.Token) {
	t.Helper()
	if got, e := token.Decode(b); e != api.OK || got != want {
		t.Errorf("%x: %v, error %d, want %v", b, got, e, want)
	}
}

// wantNone holds Decode against that the bytes are no token's.
func wantNone(t *testing.T, b []byte) {
	t.Helper()
	if got, e := token.Decode(b); e != api.ErrForm || got != (api.Token{}) {
		t.Errorf("%x: %v, error %d", b, got, e)
	}
}

// P14.1: known claims, both ways.
func TestKnown(t *testing.T) {
	for s, c := range map[string]api.Claim{
		"0000000000010000000000000000": {Rights: 1},
		"0361000000020100000000000000": {Place: 3, Name: "a", Rights: 2, Until: 1},
		"0277787976031112131421222324": {Place: 2, Name: "wxyv", Rights: 3, Until: 0x14131211, Gen: 0x24232221},
		"01646174610300000080ffffffff": {Place: 1, Name: "data", Rights: 3, Until: 1 << 31, Gen: math.MaxUint32},
		"00610000000100010000ff000000": {Name: "a", Rights: 1, Until: 256, Gen: 255},
	} {
		want, err := hex.DecodeString(s)
		if err != nil {
			t.Fatal(err)
		}
		if got, e := token.Claim(c); e != api.OK || !bytes.Equal(got, want) {
			t.Errorf("%v: %x, error %d, want %x", c, got, e, want)
		}
		tag := aTag()
		all := append(want, tag[:]...)
		if got, e := token.Encode(api.Token{Claim: c, Tag: tag}); e != api.OK || !bytes.Equal(got, all) {
			t.Errorf("%v: %x, error %d, want %x", c, got, e, all)
		}
		wantToken(t, all, api.Token{Claim: c, Tag: tag})
	}
}

// P14.1: the places that there are, and others.
func TestPlaces(t *testing.T) {
	for place := -5; place < 10; place++ {
		c := full()
		c.Place = place
		if place >= 0 && place <= 3 {
			wantBytes(t, c)
		} else {
			wantNoBytes(t, c)
		}
	}
	for _, place := range []int{255, 256, 257, -255, -256, 1 << 16, 1 << 32, 1<<32 + 1, -1 << 32, math.MaxInt, math.MinInt} {
		c := full()
		c.Place = place
		wantNoBytes(t, c)
	}
}

// P14.1: each choice of rights, and others.
func TestRights(t *testing.T) {
	for rights := -5; rights < 20; rights++ {
		c := full()
		c.Rights = rights
		if rights >= 1 && rights <= 3 {
			wantBytes(t, c)
		} else {
			wantNoBytes(t, c)
		}
	}
	for _, rights := range []int{255, 256, 257, 258, -254, -255, 1<<32 + 1, 1 - 1<<32, math.MaxInt, math.MinInt, math.MinInt + 1} {
		c := full()
		c.Rights = rights
		wantNoBytes(t, c)
	}
}

// P14.1: no name, right ones, wrong ones, such as are too long.
func TestNames(t *testing.T) {
	for _, name := range []string{"", "a", "z", "ab", "abc", "abcd", "zzzz"} {
		c := full()
		c.Name = name
		wantBytes(t, c)
	}
	for _, name := range []string{"abcde", "datadata", strings.Repeat("a", 1000), "A", "Data", "a b", " ", "a1", "\x00", "a\x00", "\x00a", "\x00\x00\x00\x00", "é", "\xff", "`", "{", "*"} {
		c := full()
		c.Name = name
		wantNoBytes(t, c)
	}
}

// P14.1: numbers at the bounds of their bytes, the lowest byte first.
func TestNumbers(t *testing.T) {
	for _, n := range edges() {
		for _, m := range edges() {
			wantBytes(t, api.Claim{Rights: 1, Until: n, Gen: m})
			wantBytes(t, api.Claim{Place: 3, Name: "data", Rights: 3, Until: n, Gen: m})
		}
	}
}

// P14.1, P14.2: claims by lot, such as may be and such as may not be.
func TestByLot(t *testing.T) {
	lot := rand.New(rand.NewSource(14))
	seen := map[bool]int{}
	for range 20000 {
		name := make([]byte, lot.Intn(6))
		for i := range name {
			name[i] = byte('a' + lot.Intn(27))
		}
		c := api.Claim{Place: lot.Intn(6) - 1, Name: string(name), Rights: lot.Intn(6) - 1, Until: lot.Uint32(), Gen: lot.Uint32()}
		seen[mayBe(c)]++
		if mayBe(c) {
			wantBytes(t, c)
		} else {
			wantNoBytes(t, c)
		}
	}
	if seen[true] < 1000 || seen[false] < 1000 {
		t.Error(seen)
	}
}

// P14.1: other lengths than 46.
func TestLengths(t *testing.T) {
	tag := aTag()
	all := append(bytesOf(full()), tag[:]...)
	wantToken(t, all, api.Token{Claim: full(), Tag: tag})
	wantNone(t, nil)
	wantNone(t, []byte{})
	for n := range all {
		wantNone(t, all[:n])
		wantNone(t, slices.Clone(all[:n]))
		wantNone(t, all[len(all)-n:])
	}
	for _, n := range []int{1, 2, 46, 256, 1 << 16} {
		wantNone(t, slices.Concat(all, make([]byte, n)))
		wantNone(t, slices.Concat(make([]byte, n), all))
		wantNone(t, slices.Concat(all, slices.Repeat([]byte{1}, n)))
	}
	wantNone(t, make([]byte, 45))
	wantNone(t, make([]byte, 46))
	wantNone(t, make([]byte, 47))
}

// P14.1, P14.2: each of the 46 bytes has its place: turned into each other value it makes another token, or none.
func TestEachByte(t *testing.T) {
	tag := aTag()
	for _, c := range []api.Claim{full(), {Rights: 1}, {Place: 3, Name: "a", Rights: 2, Until: 256, Gen: 1}, {Place: 1, Name: "ab", Rights: 3}, {Name: "abc", Rights: 1}} {
		ahead := append(bytesOf(c), tag[:]...)
		for i := range ahead {
			for x := range 256 {
				b := slices.Clone(ahead)
				b[i] = byte(x)
				want, ok := readByWords(b)
				if !ok {
					wantNone(t, b)
					continue
				}
				wantToken(t, b, want)
				if (want == api.Token{Claim: c, Tag: tag}) != (b[i] == ahead[i]) {
					t.Errorf("byte %d is nothing to the token", i)
				}
				if got, e := token.Encode(want); e != api.OK || !bytes.Equal(got, b) {
					t.Errorf("%v: %x, error %d, want %x", want, got, e, b)
				}
			}
		}
	}
}

// P14.1: bytes whose place, name or rights may not be, all else right.
func TestNobodysBytes(t *testing.T) {
	tag := aTag()
	for _, c := range []api.Claim{
		{Place: 4, Rights: 1}, {Place: 255, Rights: 1}, {Rights: 0}, {Rights: 4}, {Rights: 255},
		{Name: "A", Rights: 1}, {Name: "a\x00b", Rights: 1}, {Name: "\x00a", Rights: 1}, {Name: "\x00\x00\x00a", Rights: 1}, {Name: "a1", Rights: 1}, {Name: "\xff\xff\xff\xff", Rights: 1}, {Name: "a\x00\x00b", Rights: 3},
	} {
		wantNone(t, append(bytesOf(c), tag[:]...))
	}
}

// Rule 2: what is handed in is not changed, nor kept; what is told is new memory, its spare room too.
func TestMemory(t *testing.T) {
	tag := aTag()
	c := full()
	tok := api.Token{Claim: c, Tag: tag}
	room := append(append(bytesOf(c), tag[:]...), 7, 8, 9)
	got, e := token.Decode(room[:46])
	if e != api.OK || got != tok || !bytes.Equal(room, append(append(bytesOf(c), tag[:]...), 7, 8, 9)) {
		t.Errorf("%v, error %d, %x", got, e, room)
	}
	clear(room)
	if got != tok {
		t.Errorf("%v", got)
	}
	for _, tell := range []func() []byte{
		func() []byte { b, _ := token.Claim(c); return b },
		func() []byte { b, _ := token.Encode(tok); return b },
	} {
		first, second := tell(), tell()
		want := slices.Clone(second)
		first = first[:cap(first)]
		for i := range first {
			first[i] = 0x99
		}
		if !bytes.Equal(second, want) || !bytes.Equal(tell(), want) || c != full() || tok.Tag != tag {
			t.Errorf("%x, want %x", second, want)
		}
	}
}
