package ask_test

import (
	"bytes"
	"encoding/hex"
	"math"
	"math/rand"
	"slices"
	"strings"
	"testing"

	"tollhouse/api"
	"tollhouse/ask"
	"tollhouse/crc"
)

// bytesFrom are n bytes that count up from that one.
func bytesFrom(first byte, n int) []byte {
	var b []byte
	for i := range n {
		b = append(b, first+byte(i))
	}
	return b
}

// aToken is a token whose bytes all differ.
func aToken() api.Token {
	return api.Token{
		Claim: api.Claim{Place: 2, Name: "wxyz", Rights: 3, Until: 0x14131211, Gen: 0x24232221},
		Tag:   api.Digest(bytesFrom(0xc0, 32)),
	}
}

// aRead is a request to read.
func aRead() api.Ask {
	return api.Ask{Kind: api.AskRead, Token: aToken(), Volume: "data", At: 7}
}

// aWrite is a request to write.
func aWrite() api.Ask {
	return api.Ask{Kind: api.AskWrite, Token: aToken(), Volume: "log", At: 9, Data: api.Block(bytesFrom(0x61, 32))}
}

// digits are n's four bytes, the lowest first, told by division.
func digits(n uint32) []byte {
	var b []byte
	for range 4 {
		b = append(b, byte(n%256))
		n /= 256
	}
	return b
}

// padded are a name's first four bytes, and zeros.
func padded(name string) []byte {
	return []byte((name + "\x00\x00\x00\x00")[:4])
}

// checked are the bytes, and a right check behind them.
func checked(b []byte) []byte {
	c := crc.Check(b)
	return append(slices.Clone(b), byte(c%256), byte(c/256))
}

// bytesOf are the request's bytes as the chapter's words have them, whether it may be or not; of other kinds those of a write.
func bytesOf(a api.Ask) []byte {
	b := slices.Concat([]byte{byte(a.Kind), byte(a.Place)}, padded(a.Name), []byte{byte(a.Rights)}, digits(a.Until), digits(a.Gen), a.Tag[:], padded(a.Volume), []byte{byte(a.At)})
	if a.Kind != 1 {
		b = append(b, a.Data[:]...)
	}
	return checked(b)
}

// isRightName is what the words of layer 10 say of a name.
func isRightName(name string) bool {
	return name != "" && len(name) < 5 && strings.Trim(name, "abcdefghijklmnopqrstuvwxyz") == ""
}

// mayBe is what the chapters' words say of a request.
func mayBe(a api.Ask) bool {
	kind := a.Kind == 2 || a.Kind == 1 && a.Data == api.Block{}
	claim := a.Place > -1 && a.Place < 4 && (a.Name == "" || isRightName(a.Name)) && a.Rights > 0 && a.Rights < 4
	return kind && claim && isRightName(a.Volume) && a.At > -1 && a.At < 256
}

// readByWords is the request that the bytes tell, and whether it may be, and has a right check.
func readByWords(b []byte) (api.Ask, bool) {
	if len(b) != 54 && len(b) != 86 || (len(b) == 54) != (b[0] == 1) {
		return api.Ask{}, false
	}
	var a api.Ask
	a.Kind, a.Place, a.Rights, a.At = int(b[0]), int(b[1]), int(b[6]), int(b[51])
	a.Name = strings.TrimRight(string(b[2:6]), "\x00")
	a.Volume = strings.TrimRight(string(b[47:51]), "\x00")
	for i := range 4 {
		a.Until += uint32(b[7+i]) << (8 * i)
		a.Gen += uint32(b[11+i]) << (8 * i)
	}
	copy(a.Tag[:], b[15:47])
	copy(a.Data[:], b[52:len(b)-2])
	return a, mayBe(a) && bytes.Equal(b, checked(b[:len(b)-2]))
}

// wantBytes holds Encode against the words, and Decode against telling the request again.
func wantBytes(t *testing.T, a api.Ask) {
	t.Helper()
	got, e := ask.Encode(a)
	if e != api.OK || !bytes.Equal(got, bytesOf(a)) {
		t.Errorf("%v: %x, error %d, want %x", a, got, e, bytesOf(a))
	}
	wantAsk(t, got, a)
}

// wantNoBytes holds Encode against that the request may not be.
func wantNoBytes(t *testing.T, a api.Ask) {
	t.Helper()
	if got, e := ask.Encode(a); e != api.ErrForm || len(got) != 0 {
		t.Errorf("%v: %x, error %d", a, got, e)
	}
}

// wantAsk holds Decode against that request.
func wantAsk(t *testing.T, b []byte, want api.Ask) {
	t.Helper()
	if got, e := ask.Decode(b); e != api.OK || got != want {
		t.Errorf("%x: %v, error %d, want %v", b, got, e, want)
	}
}

// wantNone holds Decode against that the bytes are no request's.
func wantNone(t *testing.T, b []byte) {
	t.Helper()
	if got, e := ask.Decode(b); e != api.ErrForm || got != (api.Ask{}) {
		t.Errorf("%x: %v, error %d", b, got, e)
	}
}

// P16.1: known requests, whose checks come from elsewhere (Python's crc_hqx of the bits in reverse), both ways.
func TestKnown(t *testing.T) {
	tag := api.Digest(bytesFrom(0xc0, 32))
	for s, a := range map[string]api.Ask{
		"01027778797a031112131421222324c0c1c2c3c4c5c6c7c8c9cacbcccdcecfd0d1d2d3d4d5d6d7d8d9dadbdcdddedf6461746107268c":                                                                 aRead(),
		"01000000000001000000000000000000000000000000000000000000000000000000000000000000000000000000006100000000ee04":                                                                 {Kind: 1, Token: api.Token{Claim: api.Claim{Rights: 1}}, Volume: "a"},
		"02036100000002ffffffff01000000c0c1c2c3c4c5c6c7c8c9cacbcccdcecfd0d1d2d3d4d5d6d7d8d9dadbdcdddedf6c6f6700ff0102030405060708090a0b0c0d0e0f101112131415161718191a1b1c1d1e1f201c5e": {Kind: 2, Token: api.Token{Claim: api.Claim{Place: 3, Name: "a", Rights: 2, Until: math.MaxUint32, Gen: 1}, Tag: tag}, Volume: "log", At: 255, Data: api.Block(bytesFrom(1, 32))},
		"0201000000000300010000ff000000c0c1c2c3c4c5c6c7c8c9cacbcccdcecfd0d1d2d3d4d5d6d7d8d9dadbdcdddedf7a7a0000010000000000000000000000000000000000000000000000000000000000000000a79b": {Kind: 2, Token: api.Token{Claim: api.Claim{Place: 1, Rights: 3, Until: 256, Gen: 255}, Tag: tag}, Volume: "zz", At: 1},
	} {
		want, err := hex.DecodeString(s)
		if err != nil {
			t.Fatal(err)
		}
		if got, e := ask.Encode(a); e != api.OK || !bytes.Equal(got, want) {
			t.Errorf("%v: %x, error %d, want %x", a, got, e, want)
		}
		wantAsk(t, want, a)
	}
}

// P16.1: the chapter's example.
func TestExample(t *testing.T) {
	read, _ := ask.Encode(aRead())
	write, _ := ask.Encode(aWrite())
	if len(read) != 54 || len(write) != 86 {
		t.Error(len(read), len(write))
	}
}

// P16.1: the two kinds, and others.
func TestKinds(t *testing.T) {
	wantBytes(t, aRead())
	wantBytes(t, aWrite())
	for _, kind := range []int{0, -1, -2, 3, 4, 254, 255, 256, 257, 258, -254, -255, 1<<32 + 1, 1<<32 + 2, math.MaxInt, math.MinInt} {
		for _, a := range []api.Ask{aRead(), aWrite()} {
			a.Kind = kind
			wantNoBytes(t, a)
		}
	}
}

// P16.1: Data of a write may be anything, that of a read zeros alone.
func TestData(t *testing.T) {
	for i := range 32 {
		for _, x := range []byte{1, 128, 255} {
			a := aRead()
			a.Data[i] = x
			wantNoBytes(t, a)
			a.Kind = api.AskWrite
			wantBytes(t, a)
		}
	}
	a := aRead()
	a.Data = aWrite().Data
	wantNoBytes(t, a)
	a = aWrite()
	a.Data = api.Block{}
	wantBytes(t, a)
}

// P16.1: tokens that have no bytes.
func TestWrongTokens(t *testing.T) {
	for _, c := range []api.Claim{
		{}, {Rights: 0, Name: "data"}, {Rights: 4}, {Rights: -1}, {Rights: 257}, {Rights: math.MinInt},
		{Rights: 1, Place: -1}, {Rights: 1, Place: 4}, {Rights: 1, Place: 256}, {Rights: 1, Place: math.MaxInt},
		{Rights: 1, Name: "abcde"}, {Rights: 1, Name: "A"}, {Rights: 1, Name: "a\x00"}, {Rights: 1, Name: "\x00"},
	} {
		for _, a := range []api.Ask{aRead(), aWrite()} {
			a.Claim = c
			wantNoBytes(t, a)
			a.Tag = api.Digest{}
			wantNoBytes(t, a)
		}
	}
}

// P16.1: tokens at the edges of what they may be.
func TestTokens(t *testing.T) {
	for _, c := range []api.Claim{
		{Rights: 1}, {Rights: 2}, {Rights: 3}, {Rights: 1, Place: 3}, {Rights: 1, Name: "a"}, {Rights: 1, Name: "zzzz"},
		{Rights: 3, Until: math.MaxUint32}, {Rights: 3, Gen: math.MaxUint32}, {Rights: 2, Until: 1 << 24, Gen: 256},
	} {
		for _, a := range []api.Ask{aRead(), aWrite()} {
			a.Claim = c
			wantBytes(t, a)
			a.Tag = api.Digest{}
			wantBytes(t, a)
		}
	}
}

// P16.1: volumes' names, right and wrong; here "" is wrong, too.
func TestVolumes(t *testing.T) {
	for name, ok := range map[string]bool{
		"a": true, "z": true, "ab": true, "abc": true, "abcd": true, "zzzz": true,
		"": false, "abcde": false, "datadata": false, "A": false, "Data": false, "a b": false, "a1": false, "\x00": false, "a\x00": false, "\x00a": false, "é": false, "\xff": false, "`": false, "{": false, "*": false,
	} {
		for _, a := range []api.Ask{aRead(), aWrite()} {
			a.Volume = name
			if ok {
				wantBytes(t, a)
			} else {
				wantNoBytes(t, a)
			}
		}
	}
}

// P16.1: each At that a byte holds, and others; how many blocks a volume has is nothing to it.
func TestAt(t *testing.T) {
	for at := -300; at < 600; at++ {
		for _, a := range []api.Ask{aRead(), aWrite()} {
			a.At = at
			if at >= 0 && at <= 255 {
				wantBytes(t, a)
			} else {
				wantNoBytes(t, a)
			}
		}
	}
	for _, at := range []int{1 << 16, 1 << 32, 1<<32 + 7, -1 << 32, math.MaxInt, math.MinInt} {
		a := aWrite()
		a.At = at
		wantNoBytes(t, a)
	}
}

// P16.1: other lengths than 54 and 86, and the one kind's length of the other kind, with right checks, too.
func TestLengths(t *testing.T) {
	wantNone(t, nil)
	wantNone(t, []byte{})
	for _, a := range []api.Ask{aRead(), aWrite()} {
		all := bytesOf(a)
		for n := range all {
			wantNone(t, all[:n])
			wantNone(t, all[n+1:])
			if n != len(all)-2 {
				wantNone(t, checked(all[:n]))
			}
		}
		for n := range 100 {
			wantNone(t, slices.Concat(all, make([]byte, n+1)))
			wantNone(t, checked(slices.Concat(all[:len(all)-2], make([]byte, n+1))))
			wantNone(t, slices.Concat(make([]byte, n+1), all))
		}
	}
	for _, n := range []int{1, 2, 3, 53, 54, 55, 85, 86, 87, 256, 1 << 16} {
		wantNone(t, make([]byte, n))
		wantNone(t, checked(make([]byte, n)))
	}
	read, write := bytesOf(aRead()), bytesOf(aWrite())
	read[0], write[0] = 2, 1
	wantNone(t, checked(read[:52]))
	wantNone(t, checked(write[:84]))
	// A read of a write's length, with zeros where that has its Data.
	wantNone(t, checked(append(bytesOf(aRead())[:52], make([]byte, 32)...)))
	wantNone(t, checked(append(bytesOf(aRead())[:52], make([]byte, 34)...)))
}

// P16.1: bytes with a right check of what may not be.
func TestNobodysBytes(t *testing.T) {
	for _, change := range []func(a *api.Ask){
		func(a *api.Ask) { a.Place = 4 },
		func(a *api.Ask) { a.Place = 255 },
		func(a *api.Ask) { a.Name = "A" },
		func(a *api.Ask) { a.Name = "a\x00b" },
		func(a *api.Ask) { a.Name = "\x00a" },
		func(a *api.Ask) { a.Rights = 0 },
		func(a *api.Ask) { a.Rights = 4 },
		func(a *api.Ask) { a.Volume = "" },
		func(a *api.Ask) { a.Volume = "A" },
		func(a *api.Ask) { a.Volume = "a\x00b" },
		func(a *api.Ask) { a.Volume = "\x00\x00\x00a" },
		func(a *api.Ask) { a.Volume = "\xff\xff\xff\xff" },
	} {
		for _, a := range []api.Ask{aRead(), aWrite()} {
			change(&a)
			wantNone(t, bytesOf(a))
		}
	}
	for _, kind := range []byte{0, 3, 4, 128, 255} {
		for _, a := range []api.Ask{aRead(), aWrite()} {
			b := bytesOf(a)
			b[0] = kind
			wantNone(t, checked(b[:len(b)-2]))
		}
	}
}

// P16.1: each byte but the check turned into each other value, behind it a right check: the request that it is then, or none.
func TestEachByteChecked(t *testing.T) {
	for _, a := range []api.Ask{aRead(), aWrite()} {
		ahead := bytesOf(a)
		found := 0
		for i := range len(ahead) - 2 {
			for x := range 256 {
				b := slices.Clone(ahead)
				b[i] = byte(x)
				b = checked(b[:len(b)-2])
				want, ok := readByWords(b)
				if !ok {
					wantNone(t, b)
					continue
				}
				found++
				wantAsk(t, b, want)
				if (want == a) != (b[i] == ahead[i]) {
					t.Errorf("byte %d is nothing to the request", i)
				}
			}
		}
		if found < 40*256 {
			t.Error("found:", found)
		}
	}
}

// P16.2: with one byte turned, by whatever, it is none.
func TestOneByteTurned(t *testing.T) {
	for _, a := range []api.Ask{aRead(), aWrite(), {Kind: 1, Token: api.Token{Claim: api.Claim{Rights: 1}}, Volume: "a"}} {
		b := bytesOf(a)
		for i := range b {
			for x := 1; x < 256; x++ {
				b[i] ^= byte(x)
				wantNone(t, b)
				b[i] ^= byte(x)
			}
		}
		wantAsk(t, b, a)
	}
}

// P16.2: so it is with two neighboring ones turned, by lot and bit by bit.
func TestTwoBytesTurned(t *testing.T) {
	lot := rand.New(rand.NewSource(16))
	for _, a := range []api.Ask{aRead(), aWrite()} {
		b := bytesOf(a)
		for i := range len(b) - 1 {
			turn := func(x, y byte) {
				b[i] ^= x
				b[i+1] ^= y
				wantNone(t, b)
				b[i] ^= x
				b[i+1] ^= y
			}
			for bit := range 64 {
				turn(1<<(bit%8), 1<<(bit/8))
			}
			for range 500 {
				turn(byte(lot.Intn(255)+1), byte(lot.Intn(255)+1))
			}
		}
		wantAsk(t, b, a)
	}
}

// P16.1, P16.2: requests by lot, such as may be and such as may not be.
func TestByLot(t *testing.T) {
	lot := rand.New(rand.NewSource(160))
	name := func() string {
		b := make([]byte, lot.Intn(6))
		for i := range b {
			b[i] = byte('a' + lot.Intn(27)%26)
		}
		return string(b)
	}
	seen := map[bool]int{}
	for range 20000 {
		a := api.Ask{Kind: lot.Intn(4), Volume: name(), At: lot.Intn(300) - 10}
		a.Claim = api.Claim{Place: lot.Intn(5), Name: name(), Rights: lot.Intn(5), Until: lot.Uint32(), Gen: lot.Uint32()}
		lot.Read(a.Tag[:])
		if a.Kind != 1 {
			lot.Read(a.Data[:])
		}
		seen[mayBe(a)]++
		if mayBe(a) {
			wantBytes(t, a)
		} else {
			wantNoBytes(t, a)
		}
	}
	if seen[true] < 1000 || seen[false] < 1000 {
		t.Error(seen)
	}
}

// Rule 2: what is handed in is not changed, its spare room included, nor kept; what is told is new memory, its spare room too.
func TestMemory(t *testing.T) {
	for _, a := range []api.Ask{aRead(), aWrite()} {
		room := append(bytesOf(a), bytesFrom(1, 50)...)
		ahead := slices.Clone(room)
		got, e := ask.Decode(room[:len(room)-50])
		if e != api.OK || got != a || !bytes.Equal(room, ahead) {
			t.Errorf("%v, error %d, %x", got, e, room)
		}
		clear(room)
		if got != a {
			t.Errorf("%v", got)
		}
		first, _ := ask.Encode(a)
		second, _ := ask.Encode(a)
		first = first[:cap(first)]
		for i := range first {
			first[i] = 0x99
		}
		if !bytes.Equal(second, bytesOf(a)) {
			t.Errorf("%x", second)
		}
		wantBytes(t, a)
	}
}
