// Package sha is layer 1: the hash function SHA-256, as FIPS 180-4 specifies it.
package sha

import "math/bits"

const (
	blockBytes = 64
	hexDigits  = "0123456789abcdef"
)

// constants are the round constants of the standard (section 4.2.2).
var constants = [64]uint32{
	0x428a2f98, 0x71374491, 0xb5c0fbcf, 0xe9b5dba5, 0x3956c25b, 0x59f111f1, 0x923f82a4, 0xab1c5ed5,
	0xd807aa98, 0x12835b01, 0x243185be, 0x550c7dc3, 0x72be5d74, 0x80deb1fe, 0x9bdc06a7, 0xc19bf174,
	0xe49b69c1, 0xefbe4786, 0x0fc19dc6, 0x240ca1cc, 0x2de92c6f, 0x4a7484aa, 0x5cb0a9dc, 0x76f988da,
	0x983e5152, 0xa831c66d, 0xb00327c8, 0xbf597fc7, 0xc6e00bf3, 0xd5a79147, 0x06ca6351, 0x14292967,
	0x27b70a85, 0x2e1b2138, 0x4d2c6dfc, 0x53380d13, 0x650a7354, 0x766a0abb, 0x81c2c92e, 0x92722c85,
	0xa2bfe8a1, 0xa81a664b, 0xc24b8b70, 0xc76c51a3, 0xd192e819, 0xd6990624, 0xf40e3585, 0x106aa070,
	0x19a4c116, 0x1e376c08, 0x2748774c, 0x34b0bcb5, 0x391c0cb3, 0x4ed8aa4a, 0x5b9cca4f, 0x682e6ff3,
	0x748f82ee, 0x78a5636f, 0x84c87814, 0x8cc70208, 0x90befffa, 0xa4506ceb, 0xbef9a3f7, 0xc67178f2,
}

// Sum returns the digest of s: 32 bytes.
func Sum(s string) string {
	state := initial()
	rest := s
	for len(rest) >= blockBytes {
		state = Block(state, rest[:blockBytes])
		rest = rest[blockBytes:]
	}
	last := rest + padding(len(s))
	for len(last) > 0 {
		state = Block(state, last[:blockBytes])
		last = last[blockBytes:]
	}
	return output(state)
}

// Block returns the state after one block of 64 bytes, or state itself if block has another length.
func Block(state [8]uint32, block string) [8]uint32 {
	if len(block) != blockBytes {
		return state
	}
	w := schedule(block)
	v := state
	for t := range 64 {
		v = round(v, w[t]+constants[t])
	}
	for i := range v {
		v[i] += state[i]
	}
	return v
}

// Hex returns s in hexadecimal, in lower case.
func Hex(s string) string {
	out := make([]byte, 0, 2*len(s))
	for i := range len(s) {
		out = append(out, hexDigits[s[i]>>4], hexDigits[s[i]&15])
	}
	return string(out)
}

func initial() [8]uint32 {
	return [8]uint32{
		0x6a09e667, 0xbb67ae85, 0x3c6ef372, 0xa54ff53a,
		0x510e527f, 0x9b05688c, 0x1f83d9ab, 0x5be0cd19,
	}
}

// padding returns what the standard appends to a message of n bytes.
func padding(n int) string {
	zeros := (2*blockBytes - 9 - n%blockBytes) % blockBytes
	out := make([]byte, 1+zeros, 9+zeros)
	out[0] = 0x80
	bitCount := uint64(n) * 8
	for i := 7; i >= 0; i-- {
		out = append(out, byte(bitCount>>(8*i)))
	}
	return string(out)
}

// schedule returns the words that the 64 rounds of a block consume.
func schedule(block string) [64]uint32 {
	var w [64]uint32
	for t := range 16 {
		w[t] = uint32(block[4*t])<<24 | uint32(block[4*t+1])<<16 |
			uint32(block[4*t+2])<<8 | uint32(block[4*t+3])
	}
	for t := 16; t < 64; t++ {
		a, b := w[t-15], w[t-2]
		low := bits.RotateLeft32(a, -7) ^ bits.RotateLeft32(a, -18) ^ a>>3
		high := bits.RotateLeft32(b, -17) ^ bits.RotateLeft32(b, -19) ^ b>>10
		w[t] = w[t-16] + low + w[t-7] + high
	}
	return w
}

// round returns the eight working variables after one round with the word w, round constant included.
func round(v [8]uint32, w uint32) [8]uint32 {
	a, b, c, d, e, f, g, h := v[0], v[1], v[2], v[3], v[4], v[5], v[6], v[7]
	mixE := bits.RotateLeft32(e, -6) ^ bits.RotateLeft32(e, -11) ^ bits.RotateLeft32(e, -25)
	mixA := bits.RotateLeft32(a, -2) ^ bits.RotateLeft32(a, -13) ^ bits.RotateLeft32(a, -22)
	choice := e&f ^ ^e&g
	majority := a&b ^ a&c ^ b&c
	t := h + mixE + choice + w
	return [8]uint32{t + mixA + majority, a, b, c, d + t, e, f, g}
}

// output returns a state as bytes, most significant byte of each word first.
func output(state [8]uint32) string {
	out := make([]byte, 0, 4*len(state))
	for _, w := range state {
		out = append(out, byte(w>>24), byte(w>>16), byte(w>>8), byte(w))
	}
	return string(out)
}
