package sha

import (
	"bytes"
	"crypto/sha256"
	"encoding"
	"encoding/binary"
	"encoding/hex"
	"math"
	"math/big"
	"math/rand"
	"slices"
	"testing"

	"tollhouse/api"
)

// noise is n bytes, the same in every run.
func noise(n int) []byte {
	b := make([]byte, n)
	rand.New(rand.NewSource(int64(n) + 1)).Read(b)
	return b
}

// P1.1: the chapter's example, and the messages whose hashes FIPS 180-4's examples give.
func TestSumKnown(t *testing.T) {
	for _, x := range []struct{ name, message, want string }{
		{"empty", "", "e3b0c44298fc1c149afbf4c8996fb92427ae41e4649b934ca495991b7852b855"},
		{"abc", "abc", "ba7816bf8f01cfea414140de5dae2223b00361a396177a9cb410ff61f20015ad"},
		{"56 bytes", "abcdbcdecdefdefgefghfghighijhijkijkljklmklmnlmnomnopnopq", "248d6a61d20638b8e5c026930c3e6039a33ce45964ff2167f6ecedd419db06c1"},
		{"112 bytes", "abcdefghbcdefghicdefghijdefghijkefghijklfghijklmghijklmnhijklmnoijklmnopjklmnopqklmnopqrlmnopqrsmnopqrstnopqrstu", "cf5b16a778af8380036ce59e7b0492370b249b11e8f07a51afac45037afee9d1"},
		{"a million a", string(bytes.Repeat([]byte("a"), 1000000)), "cdc76e5c9914fb9281a1c7e284d73e67f1809a48a497200e046d39ccc7112cd0"},
	} {
		got := Sum([]byte(x.message))
		if hex.EncodeToString(got[:]) != x.want {
			t.Errorf("%s: %x, want %s", x.name, got, x.want)
		}
	}
	abc := Sum([]byte("abc"))
	if !bytes.HasPrefix(abc[:], []byte{0xba, 0x78, 0x16, 0xbf}) {
		t.Errorf("the chapter's example: %x", abc)
	}
}

// P1.1: every length around the ends of the first blocks, and one of many blocks.
func TestSumLengths(t *testing.T) {
	lengths := []int{1 << 16, 1<<16 + 55, 1<<16 + 56, 1<<16 + 63, 300007}
	for n := range 4*blockSize + 2 {
		lengths = append(lengths, n)
	}
	for _, n := range lengths {
		b := noise(n)
		if got, want := Sum(b), api.Digest(sha256.Sum256(b)); got != want {
			t.Errorf("%d bytes: %x, want %x", n, got, want)
		}
	}
}

// P1.1: a message of which each byte counts.
func TestSumEachByte(t *testing.T) {
	b := noise(130)
	want := Sum(b)
	for i := range b {
		b[i] ^= 1
		if Sum(b) == want {
			t.Errorf("byte %d is not looked at", i)
		}
		b[i] ^= 1
	}
	if Sum(b) != want {
		t.Error("what was summed in between is remembered")
	}
}

// P1.1, P1.3: no parts, and parts without bytes.
func TestSumEmptyParts(t *testing.T) {
	none := Sum()
	if none != api.Digest(sha256.Sum256(nil)) {
		t.Errorf("no parts: %x", none)
	}
	for i, parts := range [][][]byte{nil, {}, {nil}, {{}}, {nil, {}, nil}} {
		if Sum(parts...) != none {
			t.Errorf("empty parts, row %d", i)
		}
	}
	b := noise(70)
	if Sum(nil, b[:64], nil, []byte{}, b[64:], nil) != Sum(b) {
		t.Error("empty parts between others")
	}
}

// P1.3: each cut in two and some in three, over the ends of blocks.
func TestSumCuts(t *testing.T) {
	for _, n := range []int{1, 55, 56, 63, 64, 65, 119, 120, 128, 200} {
		b := noise(n)
		want := api.Digest(sha256.Sum256(b))
		for i := 0; i <= n; i++ {
			if Sum(b[:i], b[i:]) != want {
				t.Errorf("%d bytes cut at %d", n, i)
			}
			for j := i; j <= n; j += 13 {
				if Sum(b[:i], b[i:j], b[j:]) != want {
					t.Errorf("%d bytes cut at %d and %d", n, i, j)
				}
			}
		}
	}
}

// P1.3: parts of one byte, and of lengths drawn by lot.
func TestSumManyParts(t *testing.T) {
	b := noise(1000)
	want := api.Digest(sha256.Sum256(b))
	if Sum(slices.Collect(slices.Chunk(b, 1))...) != want {
		t.Error("parts of one byte")
	}
	lot := rand.New(rand.NewSource(3))
	for i := range 200 {
		var parts [][]byte
		for rest := b; len(rest) > 0; {
			n := lot.Intn(min(len(rest), 150) + 1)
			parts = append(parts, rest[:n])
			rest = rest[n:]
		}
		if Sum(parts...) != want {
			t.Errorf("parts of lot %d", i)
		}
	}
	// Other bytes in the same cuts, and the same parts in another order, are other messages.
	if Sum(b[500:], b[:500]) == want || Sum(b[:500]) == want {
		t.Error("order and length of parts")
	}
}

// Rule 2: what is handed in stays as it is, its spare room too.
func TestSumChangesNothing(t *testing.T) {
	room := noise(300)
	before := slices.Clone(room)
	parts := [][]byte{room[:10:100], room[100:164], room[200:255]}
	Sum(parts...)
	if !bytes.Equal(room, before) {
		t.Error("the parts' bytes")
	}
	if len(parts) != 3 || len(parts[0]) != 10 || len(parts[1]) != 64 || len(parts[2]) != 55 {
		t.Error("the list of parts")
	}
}

// fraction is the first 32 bits behind the point of the k-th root of p.
func fraction(p int64, k int) uint32 {
	scaled := new(big.Int).Lsh(big.NewInt(p), uint(32*k))
	root := new(big.Int)
	for bit := 40; bit >= 0; bit-- {
		root.SetBit(root, bit, 1)
		if new(big.Int).Exp(root, big.NewInt(int64(k)), nil).Cmp(scaled) > 0 {
			root.SetBit(root, bit, 0)
		}
	}
	return uint32(root.Uint64())
}

func firstPrimes(n int) []int64 {
	var primes []int64
	for p := int64(2); len(primes) < n; p++ {
		if big.NewInt(p).ProbablyPrime(0) {
			primes = append(primes, p)
		}
	}
	return primes
}

// P1.2: Start and K are what the chapter says they are made of.
func TestStart(t *testing.T) {
	h := Start()
	for i, p := range firstPrimes(8) {
		if want := fraction(p, 2); h[i] != want {
			t.Errorf("H %d: %08x, want %08x", i, h[i], want)
		}
	}
	h[0]++
	if Start() == h {
		t.Error("Start tells what a caller has changed")
	}
}

func TestRoundWords(t *testing.T) {
	for i, p := range firstPrimes(64) {
		if want := fraction(p, 3); roundWords[i] != want {
			t.Errorf("K %d: %08x, want %08x", i, roundWords[i], want)
		}
	}
}

// libraryTurn lets the library's SHA-256 take one block from any H, by the state that it can be set to.
func libraryTurn(t *testing.T, h [8]uint32, block [64]byte) [8]uint32 {
	t.Helper()
	state := []byte("sha\x03")
	for _, word := range h {
		state = binary.BigEndian.AppendUint32(state, word)
	}
	state = append(state, make([]byte, 64+8)...)
	d := sha256.New()
	if err := d.(encoding.BinaryUnmarshaler).UnmarshalBinary(state); err != nil {
		t.Fatal(err)
	}
	d.Write(block[:])
	after, err := d.(encoding.BinaryMarshaler).MarshalBinary()
	if err != nil {
		t.Fatal(err)
	}
	for i := range h {
		h[i] = binary.BigEndian.Uint32(after[4+4*i:])
	}
	return h
}

// P1.2: Turn of any H and any block.
func TestTurn(t *testing.T) {
	var zeros, ones [8]uint32
	for i := range ones {
		ones[i] = math.MaxUint32
	}
	var empty [64]byte
	full := [64]byte(bytes.Repeat([]byte{0xff}, 64))
	lot := rand.New(rand.NewSource(2))
	hs := [][8]uint32{zeros, ones, Start()}
	blocks := [][64]byte{empty, full}
	for range 20 {
		var h [8]uint32
		for i := range h {
			h[i] = lot.Uint32()
		}
		hs = append(hs, h)
		var b [64]byte
		lot.Read(b[:])
		blocks = append(blocks, b)
	}
	for i, h := range hs {
		for j, b := range blocks {
			if got, want := Turn(h, b), libraryTurn(t, h, b); got != want {
				t.Errorf("H %d, block %d: %08x, want %08x", i, j, got, want)
			}
		}
	}
}

// padByWords is the pad, byte by byte as the chapter's words have it.
func padByWords(n uint64) []byte {
	pad := []byte{0x80}
	for (n%64+uint64(len(pad)))%64 != 56 {
		pad = append(pad, 0)
	}
	bits := new(big.Int).Mul(new(big.Int).Mod(new(big.Int).SetUint64(n), new(big.Int).Lsh(big.NewInt(1), 61)), big.NewInt(8))
	return append(pad, bits.FillBytes(make([]byte, 8))...)
}

// P1.2: Pad at small lengths, at each byte of the length, and at and beyond 2^61.
func TestPad(t *testing.T) {
	var lengths []uint64
	for n := range uint64(200) {
		lengths = append(lengths, n, 1<<61+n, 1<<61-1-n, 1<<62+n, 7<<61+n, math.MaxUint64-n)
	}
	for shift := range 64 {
		lengths = append(lengths, 1<<shift, 1<<shift-1, 0x0123456789abcdef>>shift)
	}
	for _, n := range lengths {
		if got, want := Pad(n), padByWords(n); !bytes.Equal(got, want) {
			t.Errorf("%d: %x, want %x", n, got, want)
		}
	}
}

// P1.2: where the pad just fits the last block, and where it needs one more.
func TestPadSizes(t *testing.T) {
	for _, x := range []struct {
		n    uint64
		size int
	}{
		{0, 64}, {1, 63}, {54, 10}, {55, 9}, {56, 72}, {57, 71}, {63, 65}, {64, 64}, {119, 9}, {120, 72},
		{1<<61 - 1, 65}, {1 << 61, 64}, {1<<61 + 55, 9}, {1<<61 + 56, 72}, {math.MaxUint64, 65},
	} {
		if got := len(Pad(x.n)); got != x.size {
			t.Errorf("%d: %d bytes, want %d", x.n, got, x.size)
		}
	}
	if !bytes.Equal(Pad(1<<61), Pad(0)) || !bytes.Equal(Pad(1<<61-1), Pad(math.MaxUint64)) || bytes.Equal(Pad(1<<60), Pad(0)) {
		t.Error("modulo 2^61")
	}
}

// Rule 2: what Pad tells is new memory, its spare room too.
func TestPadNewMemory(t *testing.T) {
	a, b := Pad(3), Pad(3)
	whole := a[:cap(a)]
	for i := range whole {
		whole[i] = 0xff
	}
	if !bytes.Equal(b, padByWords(3)) || !bytes.Equal(Pad(3), b) {
		t.Error("two answers share memory")
	}
}

// P1.2: Start, Turn and Pad by hand make Sum.
func TestSumByHand(t *testing.T) {
	for n := range 200 {
		message := noise(n)
		h := Start()
		for block := range slices.Chunk(slices.Concat(message, Pad(uint64(n))), 64) {
			h = Turn(h, [64]byte(block))
		}
		var want []byte
		for _, word := range h {
			want = binary.BigEndian.AppendUint32(want, word)
		}
		if got := Sum(message); !bytes.Equal(got[:], want) {
			t.Errorf("%d bytes: %x, want %x", n, got, want)
		}
	}
}
