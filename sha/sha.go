// Package sha is layer 1: digests: see shared/doc/01-sha.md.
package sha

import "math/bits"

// blockSize is how many bytes turn a state at once; lengthSize is how many
// of a padded text's last block tell its length.
const (
	blockSize  = 64
	lengthSize = 8
)

// roundConstants are K(0) to K(63).
var roundConstants = [64]uint32{
	0x428a2f98, 0x71374491, 0xb5c0fbcf, 0xe9b5dba5, 0x3956c25b, 0x59f111f1, 0x923f82a4, 0xab1c5ed5,
	0xd807aa98, 0x12835b01, 0x243185be, 0x550c7dc3, 0x72be5d74, 0x80deb1fe, 0x9bdc06a7, 0xc19bf174,
	0xe49b69c1, 0xefbe4786, 0x0fc19dc6, 0x240ca1cc, 0x2de92c6f, 0x4a7484aa, 0x5cb0a9dc, 0x76f988da,
	0x983e5152, 0xa831c66d, 0xb00327c8, 0xbf597fc7, 0xc6e00bf3, 0xd5a79147, 0x06ca6351, 0x14292967,
	0x27b70a85, 0x2e1b2138, 0x4d2c6dfc, 0x53380d13, 0x650a7354, 0x766a0abb, 0x81c2c92e, 0x92722c85,
	0xa2bfe8a1, 0xa81a664b, 0xc24b8b70, 0xc76c51a3, 0xd192e819, 0xd6990624, 0xf40e3585, 0x106aa070,
	0x19a4c116, 0x1e376c08, 0x2748774c, 0x34b0bcb5, 0x391c0cb3, 0x4ed8aa4a, 0x5b9cca4f, 0x682e6ff3,
	0x748f82ee, 0x78a5636f, 0x84c87814, 0x8cc70208, 0x90befffa, 0xa4506ceb, 0xbef9a3f7, 0xc67178f2,
}

// firstState is the state ahead of the first block.
var firstState = [8]uint32{
	0x6a09e667, 0xbb67ae85, 0x3c6ef372, 0xa54ff53a, 0x510e527f, 0x9b05688c, 0x1f83d9ab, 0x5be0cd19,
}

// State is of the bytes so far.
type State struct {
	// added is what the whole blocks added to the first state: kept instead
	// of the sum, so that the zero State is one of no bytes.
	added [8]uint32
	// tail has the bytes behind the last whole block, and 0 behind them: no
	// byte is kept that a digest does not need any more.
	tail [blockSize]byte
	size uint64
}

// Sum is the digest of parts.
func Sum(parts ...[]byte) [32]byte {
	return New().writeAll(parts...).Sum()
}

// New is a state of no bytes.
func New() State {
	return State{}
}

// Write is a state of more bytes.
func (s State) Write(b []byte) State {
	at := s.tailSize()
	s.size += uint64(len(b))
	for len(b) > 0 {
		n := copy(s.tail[at:], b)
		b = b[n:]
		at += n
		if at == blockSize {
			s.added = addBlock(s.added, s.tail)
			s.tail = [blockSize]byte{}
			at = 0
		}
	}
	return s
}

// Sum is the digest.
func (s State) Sum() [32]byte {
	end := s.pad()
	var digest [32]byte
	for i, x := range end.added {
		x += firstState[i]
		digest[4*i] = byte(x >> 24)
		digest[4*i+1] = byte(x >> 16)
		digest[4*i+2] = byte(x >> 8)
		digest[4*i+3] = byte(x)
	}
	return digest
}

// Len is how many bytes there are.
func (s State) Len() uint64 {
	return s.size
}

// Turn turns a word.
func Turn(x uint32, n int) uint32 {
	// The remainder is taken first: the least int has no opposite.
	return bits.RotateLeft32(x, -(n % 32))
}

// Const is a round constant.
func Const(t int) uint32 {
	if t < 0 || t >= len(roundConstants) {
		return 0
	}
	return roundConstants[t]
}

// writeAll is a state of all parts' bytes, one behind the other.
func (s State) writeAll(parts ...[]byte) State {
	for _, p := range parts {
		s = s.Write(p)
	}
	return s
}

// tailSize is how many bytes stand behind the last whole block.
func (s State) tailSize() int {
	return int(s.size % blockSize)
}

// pad is the state of the padded text, which has whole blocks alone.
func (s State) pad() State {
	var padding [blockSize + lengthSize]byte
	padding[0] = 128
	n := blockSize - lengthSize - s.tailSize()
	if n < 1 { // no room for the 128: the length comes a block later
		n += blockSize
	}
	bitCount := s.size * 8
	for i := range lengthSize {
		padding[n+i] = byte(bitCount >> (56 - 8*i))
	}
	return s.Write(padding[:n+lengthSize])
}

// addBlock is what was added to the first state, behind one block more.
func addBlock(added [8]uint32, block [blockSize]byte) [8]uint32 {
	w := schedule(block)
	a, b, c, d := firstState[0]+added[0], firstState[1]+added[1], firstState[2]+added[2], firstState[3]+added[3]
	e, f, g, h := firstState[4]+added[4], firstState[5]+added[5], firstState[6]+added[6], firstState[7]+added[7]
	for t := range w {
		x := h + (Turn(e, 6) ^ Turn(e, 11) ^ Turn(e, 25)) + (e&f ^ ^e&g) + roundConstants[t] + w[t]
		y := (Turn(a, 2) ^ Turn(a, 13) ^ Turn(a, 22)) + (a&b ^ a&c ^ b&c)
		a, b, c, d, e, f, g, h = x+y, a, b, c, d+x, e, f, g
	}
	for i, x := range [8]uint32{a, b, c, d, e, f, g, h} {
		added[i] += x
	}
	return added
}

// schedule is the words W(0) to W(63) of a block.
func schedule(block [blockSize]byte) [64]uint32 {
	var w [64]uint32
	for t := range 16 {
		w[t] = uint32(block[4*t])<<24 | uint32(block[4*t+1])<<16 | uint32(block[4*t+2])<<8 | uint32(block[4*t+3])
	}
	for t := 16; t < len(w); t++ {
		x, y := w[t-2], w[t-15]
		s1 := Turn(x, 17) ^ Turn(x, 19) ^ x>>10
		s0 := Turn(y, 7) ^ Turn(y, 18) ^ y>>3
		w[t] = s1 + w[t-7] + s0 + w[t-16]
	}
	return w
}
