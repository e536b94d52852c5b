package sha

import (
	"math/bits"

	"bartizan/api"
)

// blockSize and wordSize are how many bytes a block and a word have, tailSize how many at the end of the last block tell how many bits there were, rounds how often a block changes the words.
const (
	blockSize = 64
	wordSize  = 4
	tailSize  = 8
	rounds    = 64
)

// constants are the first 32 bits behind the point of the cube roots of the first 64 primes.
var constants = [rounds]uint32{
	0x428a2f98, 0x71374491, 0xb5c0fbcf, 0xe9b5dba5, 0x3956c25b, 0x59f111f1, 0x923f82a4, 0xab1c5ed5,
	0xd807aa98, 0x12835b01, 0x243185be, 0x550c7dc3, 0x72be5d74, 0x80deb1fe, 0x9bdc06a7, 0xc19bf174,
	0xe49b69c1, 0xefbe4786, 0x0fc19dc6, 0x240ca1cc, 0x2de92c6f, 0x4a7484aa, 0x5cb0a9dc, 0x76f988da,
	0x983e5152, 0xa831c66d, 0xb00327c8, 0xbf597fc7, 0xc6e00bf3, 0xd5a79147, 0x06ca6351, 0x14292967,
	0x27b70a85, 0x2e1b2138, 0x4d2c6dfc, 0x53380d13, 0x650a7354, 0x766a0abb, 0x81c2c92e, 0x92722c85,
	0xa2bfe8a1, 0xa81a664b, 0xc24b8b70, 0xc76c51a3, 0xd192e819, 0xd6990624, 0xf40e3585, 0x106aa070,
	0x19a4c116, 0x1e376c08, 0x2748774c, 0x34b0bcb5, 0x391c0cb3, 0x4ed8aa4a, 0x5b9cca4f, 0x682e6ff3,
	0x748f82ee, 0x78a5636f, 0x84c87814, 0x8cc70208, 0x90befffa, 0xa4506ceb, 0xbef9a3f7, 0xc67178f2,
}

// hash is a sum under way. It takes bytes as they come, so that parts are summed without being joined first.
type hash struct {
	words [8]uint32
	block [blockSize]byte // its first many%blockSize bytes are not mixed in yet
	many  int
}

// begin is the sum of nothing yet: its words are the first 32 bits behind the point of the square roots of the first eight primes.
func begin() hash {
	return hash{words: [8]uint32{
		0x6a09e667, 0xbb67ae85, 0x3c6ef372, 0xa54ff53a, 0x510e527f, 0x9b05688c, 0x1f83d9ab, 0x5be0cd19,
	}}
}

// put goes on with bytes.
func (h *hash) put(b []byte) {
	at := h.many % blockSize
	h.many += len(b)
	if at > 0 {
		n := copy(h.block[at:], b)
		if at+n < blockSize {
			return
		}
		h.mix(h.block[:])
		b = b[n:]
	}
	for len(b) >= blockSize {
		h.mix(b[:blockSize])
		b = b[blockSize:]
	}
	copy(h.block[:], b)
}

// end fills the last block up, and is the sum.
func (h *hash) end() api.Sum {
	long := uint64(h.many) * 8
	high, low := bytesOf(uint32(long>>32)), bytesOf(uint32(long))
	behind := [blockSize]byte{128}
	fill := blockSize - (h.many+tailSize)%blockSize
	h.put(behind[:fill])
	h.put(high[:])
	h.put(low[:])
	var s api.Sum
	for i, w := range h.words {
		b := bytesOf(w)
		copy(s[wordSize*i:], b[:])
	}
	return s
}

// mix changes the words by a block.
func (h *hash) mix(block []byte) {
	w := spread(block)
	a, b, c, d := h.words[0], h.words[1], h.words[2], h.words[3]
	e, f, g, last := h.words[4], h.words[5], h.words[6], h.words[7]
	for i := range rounds {
		choice := e&f ^ ^e&g
		majority := a&b ^ a&c ^ b&c
		t := last + turned(e, 6, 11, 25) + choice + constants[i] + w[i]
		u := turned(a, 2, 13, 22) + majority
		a, b, c, d, e, f, g, last = t+u, a, b, c, d+t, e, f, g
	}
	for i, x := range [8]uint32{a, b, c, d, e, f, g, last} {
		h.words[i] += x
	}
}

// spread makes a block's 16 words those of all rounds.
func spread(block []byte) [rounds]uint32 {
	const first = blockSize / wordSize
	var w [rounds]uint32
	for i := range first {
		w[i] = wordOf(block[wordSize*i : wordSize*i+wordSize])
	}
	for i := range rounds - first {
		w[i+first] = w[i] + shifted(w[i+1], 7, 18, 3) + w[i+9] + shifted(w[i+14], 17, 19, 10)
	}
	return w
}

// turned is a word turned right by i, j and k, exclusive-or.
func turned(x uint32, i, j, k int) uint32 {
	return bits.RotateLeft32(x, -i) ^ bits.RotateLeft32(x, -j) ^ bits.RotateLeft32(x, -k)
}

// shifted is a word turned right by i and j, and shifted right by k, exclusive-or.
func shifted(x uint32, i, j, k int) uint32 {
	return bits.RotateLeft32(x, -i) ^ bits.RotateLeft32(x, -j) ^ x>>k
}

// wordOf is the word of four bytes, the highest first.
func wordOf(b []byte) uint32 {
	return uint32(b[0])<<24 | uint32(b[1])<<16 | uint32(b[2])<<8 | uint32(b[3])
}

// bytesOf is a word's four bytes, the highest first.
func bytesOf(w uint32) [wordSize]byte {
	return [wordSize]byte{byte(w >> 24), byte(w >> 16), byte(w >> 8), byte(w)}
}
