package digest

import (
	"math/bits"

	"election/api"
)

const (
	blockBytes = 64
	wordBytes  = 4
	blockWords = blockBytes / wordBytes
	rounds     = 64
	marker     = 128 // the byte behind the message
	countBytes = 8   // of the number of bits, at the end
)

// roundConstants has the first 32 bits of the fractional parts of the cube roots of the first 64 primes.
var roundConstants = [rounds]uint32{
	0x428a2f98, 0x71374491, 0xb5c0fbcf, 0xe9b5dba5, 0x3956c25b, 0x59f111f1, 0x923f82a4, 0xab1c5ed5,
	0xd807aa98, 0x12835b01, 0x243185be, 0x550c7dc3, 0x72be5d74, 0x80deb1fe, 0x9bdc06a7, 0xc19bf174,
	0xe49b69c1, 0xefbe4786, 0x0fc19dc6, 0x240ca1cc, 0x2de92c6f, 0x4a7484aa, 0x5cb0a9dc, 0x76f988da,
	0x983e5152, 0xa831c66d, 0xb00327c8, 0xbf597fc7, 0xc6e00bf3, 0xd5a79147, 0x06ca6351, 0x14292967,
	0x27b70a85, 0x2e1b2138, 0x4d2c6dfc, 0x53380d13, 0x650a7354, 0x766a0abb, 0x81c2c92e, 0x92722c85,
	0xa2bfe8a1, 0xa81a664b, 0xc24b8b70, 0xc76c51a3, 0xd192e819, 0xd6990624, 0xf40e3585, 0x106aa070,
	0x19a4c116, 0x1e376c08, 0x2748774c, 0x34b0bcb5, 0x391c0cb3, 0x4ed8aa4a, 0x5b9cca4f, 0x682e6ff3,
	0x748f82ee, 0x78a5636f, 0x84c87814, 0x8cc70208, 0x90befffa, 0xa4506ceb, 0xbef9a3f7, 0xc67178f2,
}

// start returns the first 32 bits of the fractional parts of the square roots of the first eight primes.
func start() [8]uint32 {
	return [8]uint32{0x6a09e667, 0xbb67ae85, 0x3c6ef372, 0xa54ff53a, 0x510e527f, 0x9b05688c, 0x1f83d9ab, 0x5be0cd19}
}

// output returns the words of the state, the most significant byte of each first.
func output(state [8]uint32) api.Digest {
	var d api.Digest
	for i, word := range state {
		for j := range wordBytes {
			d[wordBytes*i+j] = byte(word >> (8 * (wordBytes - 1 - j)))
		}
	}
	return d
}

// tail returns the end of a padded message of length bytes: rest, which is what its whole blocks leave over, and the padding. It copies rest, since appending could write into the caller's spare capacity.
func tail(rest []byte, length uint64) []byte {
	padded := make([]byte, 0, 2*blockBytes)
	padded = append(padded, rest...)
	padded = append(padded, marker)
	for len(padded)%blockBytes != blockBytes-countBytes {
		padded = append(padded, 0)
	}
	return appendNumber(padded, 8*length, countBytes)
}

// compress takes the blocks of b, which has no part of another one, into the state.
func compress(state *[8]uint32, b []byte) {
	for ; len(b) > 0; b = b[blockBytes:] {
		block(state, b)
	}
}

// block takes the first block of b into the state.
func block(state *[8]uint32, b []byte) {
	words := schedule(b)
	mixed := mix(*state, &words)
	for i := range state {
		state[i] += mixed[i]
	}
}

// mix returns the words a to h after all rounds. They are variables of their own, since an array whose words move in every round takes three times as long.
func mix(state [8]uint32, words *[rounds]uint32) [8]uint32 {
	a, b, c, d, e, f, g, h := state[0], state[1], state[2], state[3], state[4], state[5], state[6], state[7]
	for t := range rounds {
		t1 := h + bigSigma1(e) + choose(e, f, g) + roundConstants[t] + words[t]
		t2 := bigSigma0(a) + majority(a, b, c)
		a, b, c, d, e, f, g, h = t1+t2, a, b, c, d+t1, e, f, g
	}
	return [8]uint32{a, b, c, d, e, f, g, h}
}

// schedule returns the words W0 to W63 of the first block of b.
func schedule(b []byte) [rounds]uint32 {
	var w [rounds]uint32
	for t := range blockWords {
		w[t] = uint32(b[4*t])<<24 | uint32(b[4*t+1])<<16 | uint32(b[4*t+2])<<8 | uint32(b[4*t+3])
	}
	for t := blockWords; t < rounds; t++ {
		w[t] = smallSigma1(w[t-2]) + w[t-7] + smallSigma0(w[t-15]) + w[t-16]
	}
	return w
}

// rotate returns x, rotated to the right.
func rotate(x uint32, by int) uint32 { return bits.RotateLeft32(x, -by) }

func smallSigma0(x uint32) uint32 { return rotate(x, 7) ^ rotate(x, 18) ^ x>>3 }

func smallSigma1(x uint32) uint32 { return rotate(x, 17) ^ rotate(x, 19) ^ x>>10 }

func bigSigma0(x uint32) uint32 { return rotate(x, 2) ^ rotate(x, 13) ^ rotate(x, 22) }

func bigSigma1(x uint32) uint32 { return rotate(x, 6) ^ rotate(x, 11) ^ rotate(x, 25) }

func choose(x, y, z uint32) uint32 { return x&y ^ ^x&z }

func majority(x, y, z uint32) uint32 { return x&y ^ x&z ^ y&z }
