// Package sha is SHA-256 (FIPS 180-4), layer 1: see shared/doc/01-sha.md.
package sha

import (
	"math/bits"

	"tollhouse/api"
)

// blockSize is how many bytes one Turn takes.
const blockSize = 64

// lengthSize is how many bytes of the pad tell the message's length.
const lengthSize = 8

// roundWords is the document's K.
var roundWords = [64]uint32{
	0x428a2f98, 0x71374491, 0xb5c0fbcf, 0xe9b5dba5, 0x3956c25b, 0x59f111f1, 0x923f82a4, 0xab1c5ed5,
	0xd807aa98, 0x12835b01, 0x243185be, 0x550c7dc3, 0x72be5d74, 0x80deb1fe, 0x9bdc06a7, 0xc19bf174,
	0xe49b69c1, 0xefbe4786, 0x0fc19dc6, 0x240ca1cc, 0x2de92c6f, 0x4a7484aa, 0x5cb0a9dc, 0x76f988da,
	0x983e5152, 0xa831c66d, 0xb00327c8, 0xbf597fc7, 0xc6e00bf3, 0xd5a79147, 0x06ca6351, 0x14292967,
	0x27b70a85, 0x2e1b2138, 0x4d2c6dfc, 0x53380d13, 0x650a7354, 0x766a0abb, 0x81c2c92e, 0x92722c85,
	0xa2bfe8a1, 0xa81a664b, 0xc24b8b70, 0xc76c51a3, 0xd192e819, 0xd6990624, 0xf40e3585, 0x106aa070,
	0x19a4c116, 0x1e376c08, 0x2748774c, 0x34b0bcb5, 0x391c0cb3, 0x4ed8aa4a, 0x5b9cca4f, 0x682e6ff3,
	0x748f82ee, 0x78a5636f, 0x84c87814, 0x8cc70208, 0x90befffa, 0xa4506ceb, 0xbef9a3f7, 0xc67178f2,
}

// Sum is the hash of all parts, one behind the other.
func Sum(parts ...[]byte) api.Digest {
	m := message{h: Start()}
	for _, part := range parts {
		m.add(part)
	}
	m.add(Pad(m.length))
	return digest(m.h)
}

// Start is H ahead of a message's first block.
func Start() [8]uint32 {
	return [8]uint32{
		0x6a09e667, 0xbb67ae85, 0x3c6ef372, 0xa54ff53a, 0x510e527f, 0x9b05688c, 0x1f83d9ab, 0x5be0cd19,
	}
}

// Turn is H behind one more block.
func Turn(h [8]uint32, block [64]byte) [8]uint32 {
	w := schedule(block)
	s := h
	for t := range w {
		s = round(s, roundWords[t]+w[t])
	}
	for i := range h {
		h[i] += s[i]
	}
	return h
}

// Pad is what comes behind a message of n bytes.
func Pad(n uint64) []byte {
	// The 80 and the length need nine bytes: what is left of the last block, or that and a whole one.
	size := blockSize - n%blockSize
	if size < 1+lengthSize {
		size += blockSize
	}
	pad := make([]byte, size)
	pad[0] = 0x80
	// The bits wrap round at 2^64, which takes n modulo 2^61.
	length := n * 8
	for i := range uint64(lengthSize) {
		pad[size-1-i] = byte(length >> (8 * i))
	}
	return pad
}

// message is what has come of a message: parts need not end where blocks do, so the block that is not yet full is kept.
type message struct {
	h      [8]uint32
	block  [64]byte
	length uint64
}

func (m *message) add(part []byte) {
	for len(part) > 0 {
		n := copy(m.block[m.length%blockSize:], part)
		part = part[n:]
		m.length += uint64(n)
		if m.length%blockSize == 0 {
			m.h = Turn(m.h, m.block)
		}
	}
}

// schedule is the document's w(0) to w(63).
func schedule(block [64]byte) [64]uint32 {
	var w [64]uint32
	for t := range 16 {
		w[t] = uint32(block[4*t])<<24 | uint32(block[4*t+1])<<16 | uint32(block[4*t+2])<<8 | uint32(block[4*t+3])
	}
	for t := 16; t < 64; t++ {
		w[t] = smallSigma1(w[t-2]) + w[t-7] + smallSigma0(w[t-15]) + w[t-16]
	}
	return w
}

// round is a to h behind one of the 64 rounds; kw is K(t) + w(t).
func round(s [8]uint32, kw uint32) [8]uint32 {
	a, b, c, d, e, f, g, h := s[0], s[1], s[2], s[3], s[4], s[5], s[6], s[7]
	t1 := h + bigSigma1(e) + (e&f ^ ^e&g) + kw
	t2 := bigSigma0(a) + (a&b ^ a&c ^ b&c)
	return [8]uint32{t1 + t2, a, b, c, d + t1, e, f, g}
}

func smallSigma0(x uint32) uint32 {
	return right(x, 7) ^ right(x, 18) ^ x>>3
}

func smallSigma1(x uint32) uint32 {
	return right(x, 17) ^ right(x, 19) ^ x>>10
}

func bigSigma0(x uint32) uint32 {
	return right(x, 2) ^ right(x, 13) ^ right(x, 22)
}

func bigSigma1(x uint32) uint32 {
	return right(x, 6) ^ right(x, 11) ^ right(x, 25)
}

// right is x turned right by n bits.
func right(x uint32, n int) uint32 {
	return bits.RotateLeft32(x, -n)
}

func digest(h [8]uint32) api.Digest {
	var d api.Digest
	for i, word := range h {
		d[4*i] = byte(word >> 24)
		d[4*i+1] = byte(word >> 16)
		d[4*i+2] = byte(word >> 8)
		d[4*i+3] = byte(word)
	}
	return d
}
