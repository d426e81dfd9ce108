package mac

import (
	"bytes"
	"crypto/hmac"
	"crypto/sha256"
	"encoding/hex"
	"math/rand"
	"slices"
	"testing"

	"tollhouse/api"
	"tollhouse/sha"
)

// keyLengths are those around the block's size, and some beyond it.
var keyLengths = []int{0, 1, 2, 31, 32, 33, 62, 63, 64, 65, 66, 127, 128, 129, 131, 1000}

// noise is n bytes, none of them 00, the same in every run.
func noise(n int) []byte {
	lot := rand.New(rand.NewSource(int64(n) + 1))
	b := make([]byte, n)
	for i := range b {
		b[i] = byte(1 + lot.Intn(255))
	}
	return b
}

// library is the library's HMAC-SHA-256.
func library(key, message []byte) api.Digest {
	h := hmac.New(sha256.New, key)
	h.Write(message)
	return api.Digest(h.Sum(nil))
}

// P2.1: the chapter's example, whole and cut into parts.
func TestMacExample(t *testing.T) {
	key, message := []byte("Jefe"), []byte("what do ya want for nothing?")
	want := "5bdcc146bf60754e6a042426089575c75a003f089d2739839dec58b964ec3843"
	whole := Mac(key, message)
	if hex.EncodeToString(whole[:]) != want {
		t.Errorf("whole: %x, want %s", whole, want)
	}
	for i := range len(message) + 1 {
		if Mac(key, message[:i], message[i:]) != whole {
			t.Errorf("cut at %d", i)
		}
	}
	if Mac(key, slices.Collect(slices.Chunk(message, 1))...) != whole {
		t.Error("parts of one byte")
	}
}

// P2.1: the test vectors of RFC 4231 (the fifth is of a tag cut short, the second is the chapter's example).
func TestMacKnown(t *testing.T) {
	counted := make([]byte, 25)
	for i := range counted {
		counted[i] = byte(i + 1)
	}
	long := bytes.Repeat([]byte{0xaa}, 131)
	for _, x := range []struct {
		name         string
		key, message []byte
		want         string
	}{
		{"1", bytes.Repeat([]byte{0x0b}, 20), []byte("Hi There"), "b0344c61d8db38535ca8afceaf0bf12b881dc200c9833da726e9376c2e32cff7"},
		{"3", bytes.Repeat([]byte{0xaa}, 20), bytes.Repeat([]byte{0xdd}, 50), "773ea91e36800e46854db8ebd09181a72959098b3ef8c122d9635514ced565fe"},
		{"4", counted, bytes.Repeat([]byte{0xcd}, 50), "82558a389a443c0ea4cc819899f2083a85f0faa3e578f8077a2e3ff46729665b"},
		{"6", long, []byte("Test Using Larger Than Block-Size Key - Hash Key First"), "60e431591ee0b67f0d8a26aacbf5b77f8e0bc6213728c5140546040f0ee37f54"},
		{"7", long, []byte("This is a test using a larger than block-size key and a larger than block-size data. The key needs to be hashed before being used by the HMAC algorithm."), "9b09ffa71b942fcb27635fbcd5b0e944bfdc63644f0713938a7f51535c3a35e2"},
	} {
		got := Mac(x.key, x.message)
		if hex.EncodeToString(got[:]) != x.want {
			t.Errorf("%s: %x, want %s", x.name, got, x.want)
		}
	}
}

// P2.1: a key of up to 64 bytes begins its own block, and a longer one's hash does; 00 behind.
func TestBlock(t *testing.T) {
	for _, n := range keyLengths {
		key := noise(n)
		head := key
		if n > 64 {
			hash := sha256.Sum256(key)
			head = hash[:]
		}
		want := append(slices.Clone(head), make([]byte, 64-len(head))...)
		if got := Block(key); !bytes.Equal(got[:], want) {
			t.Errorf("a key of %d bytes: %x, want %x", n, got, want)
		}
	}
	if Block(nil) != [64]byte{} || Block([]byte{}) != [64]byte{} {
		t.Error("no key")
	}
	if full := noise(64); Block(full) != [64]byte(full) {
		t.Error("a key of 64 bytes is its own block")
	}
	long := noise(65)
	hash := sha.Sum(long)
	if got := Block(long); !bytes.HasPrefix(got[:], hash[:]) || !bytes.Equal(got[32:], make([]byte, 32)) {
		t.Errorf("a key of 65 bytes: %x", got)
	}
}

// P2.1: keys and messages of many lengths, held against the library's tags and the chapter's words.
func TestMacLengths(t *testing.T) {
	for _, k := range keyLengths {
		key := noise(k)
		for _, n := range []int{0, 1, 54, 55, 56, 63, 64, 65, 119, 120, 128, 300} {
			message := noise(n)
			got := Mac(key, message)
			if want := library(key, message); got != want {
				t.Errorf("a key of %d, a message of %d: %x, want %x", k, n, got, want)
			}
			if want := byWords(key, message); got != want {
				t.Errorf("a key of %d, a message of %d: %x, by the words %x", k, n, got, want)
			}
		}
	}
	if Mac(nil, []byte("abc")) != library(nil, []byte("abc")) || Mac(nil, []byte("abc")) != Mac([]byte{}, []byte("abc")) {
		t.Error("a key that is nil")
	}
}

// byWords is the tag as the chapter's words have it.
func byWords(key, message []byte) api.Digest {
	block := Block(key)
	var inner, outer []byte
	for _, b := range block {
		inner = append(inner, b^0x36)
		outer = append(outer, b^0x5c)
	}
	hash := sha256.Sum256(append(inner, message...))
	return api.Digest(sha256.Sum256(append(outer, hash[:]...)))
}

// P2.1: each byte of the key and of the message counts.
func TestMacEachByte(t *testing.T) {
	message := noise(70)
	for _, k := range []int{1, 63, 64, 65, 130} {
		key := noise(k)
		want := Mac(key, message)
		for _, b := range [][]byte{key, message} {
			for i := range b {
				b[i] ^= 1
				if Mac(key, message) == want {
					t.Errorf("a key of %d: byte %d of %d is not looked at", k, i, len(b))
				}
				b[i] ^= 1
			}
		}
		if Mac(key, message) != want {
			t.Errorf("a key of %d: what was asked in between is remembered", k)
		}
	}
}

// P2.1: no parts, and parts without bytes.
func TestMacEmptyParts(t *testing.T) {
	for _, k := range keyLengths {
		key := noise(k)
		none := Mac(key)
		if none != library(key, nil) {
			t.Errorf("a key of %d, no parts: %x", k, none)
		}
		for i, parts := range [][][]byte{nil, {}, {nil}, {{}}, {nil, {}, nil}} {
			if Mac(key, parts...) != none {
				t.Errorf("a key of %d, empty parts, row %d", k, i)
			}
		}
	}
	key, b := noise(20), noise(70)
	if Mac(key, nil, b[:64], nil, []byte{}, b[64:], nil) != Mac(key, b) {
		t.Error("empty parts between others")
	}
}

// P2.1: where a message is cut does not matter; in which order its parts come does.
func TestMacCuts(t *testing.T) {
	for _, k := range []int{0, 4, 64, 65} {
		key := noise(k)
		for _, n := range []int{1, 55, 64, 65, 130} {
			b := noise(n)
			want := library(key, b)
			for i := range n + 1 {
				for j := i; j <= n; j += 11 {
					if Mac(key, b[:i], b[i:j], b[j:]) != want {
						t.Errorf("a key of %d, %d bytes cut at %d and %d", k, n, i, j)
					}
				}
			}
		}
	}
	key, b := noise(20), noise(130)
	want := Mac(key, b)
	if Mac(key, slices.Collect(slices.Chunk(b, 1))...) != want {
		t.Error("parts of one byte")
	}
	if Mac(key, b[65:], b[:65]) == want || Mac(key, b[:65]) == want || Mac(key, b[65:]) == want {
		t.Error("order and number of parts")
	}
	// A key's end is not a message's beginning.
	if Mac(key[:19], key[19:], b) == want {
		t.Error("where the key ends")
	}
}

// P2.2: 00 behind a key, up to 64 bytes, changes neither its block nor its tags.
func TestMacZerosBehind(t *testing.T) {
	message := noise(70)
	for _, k := range []int{0, 1, 20, 32, 62, 63, 64} {
		key := noise(k)
		block, tag, none := Block(key), Mac(key, message), Mac(key)
		for n := k; n <= 64; n++ {
			longer := append(slices.Clone(key), make([]byte, n-k)...)
			if Block(longer) != block || Mac(longer, message) != tag || Mac(longer) != none {
				t.Errorf("a key of %d, and 00 behind up to %d", k, n)
			}
		}
		// Beyond 64 bytes it is another key: its hash makes the block.
		beyond := append(slices.Clone(key), make([]byte, 65-k)...)
		if Block(beyond) == block || Mac(beyond, message) == tag {
			t.Errorf("a key of %d, and 00 behind up to 65", k)
		}
	}
	if Mac([]byte("Jefe"), message) == Mac([]byte("\x00Jefe"), message) {
		t.Error("00 ahead of a key")
	}
}

// A key of more than 64 bytes has the tags of its hash.
func TestMacLongKeyIsItsHash(t *testing.T) {
	for _, k := range []int{65, 128, 1000} {
		key := noise(k)
		hash := sha.Sum(key)
		if Block(key) != Block(hash[:]) || Mac(key, []byte("abc")) != Mac(hash[:], []byte("abc")) {
			t.Errorf("a key of %d bytes", k)
		}
	}
}

// Rule 2: what is handed in stays as it is, its spare room too.
func TestMacChangesNothing(t *testing.T) {
	for _, k := range []int{0, 1, 63, 64, 65, 200} {
		room := noise(600)
		before := slices.Clone(room)
		key := room[:k:300]
		list := [][]byte{room[300:310:400], room[400:464], room[500:555], room[560:570], nil}
		heads := slices.Clone(list)
		Mac(key, list[:3]...)
		Mac(key, list[:0]...)
		Block(key)
		if !bytes.Equal(room, before) {
			t.Errorf("a key of %d: the bytes", k)
		}
		for i := range list {
			if len(list[i]) != len(heads[i]) || cap(list[i]) != cap(heads[i]) || len(list[i]) > 0 && &list[i][0] != &heads[i][0] {
				t.Errorf("a key of %d: part %d of the list", k, i)
			}
		}
	}
}

// Key and parts may be the same memory.
func TestMacSharedMemory(t *testing.T) {
	for _, k := range []int{1, 64, 65} {
		b := noise(k)
		if Mac(b, b, b) != library(slices.Clone(b), slices.Concat(b, b)) {
			t.Errorf("%d bytes", k)
		}
	}
}

// Rules 2 and 4: what Block tells is the caller's own.
func TestBlockNewMemory(t *testing.T) {
	key := noise(64)
	block := Block(key)
	block[0] ^= 0xff
	if key[0] == block[0] || Block(key) != [64]byte(key) {
		t.Error("the block and the key share memory")
	}
}
