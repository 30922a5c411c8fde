// Package sha is layer 1: SHA-1 of bytes, at once and in pieces.
package sha

import (
	"math/bits"

	"bitloft/api"
)

const blockSize = 64

var firstWords = [5]uint32{0x67452301, 0xefcdab89, 0x98badcfe, 0x10325476, 0xc3d2e1f0}

// Sum returns the digest of bytes.
func Sum(b []byte) (api.Sum, api.Errno) {
	if len(b) > api.MaxBytes {
		return api.Sum{}, api.ErrMany
	}
	return digest(b), api.OK
}

// Pieces returns the digest of all pieces, one behind the other.
func Pieces(l [][]byte) (api.Sum, api.Errno) {
	if len(l) > api.MaxPieces {
		return api.Sum{}, api.ErrMany
	}
	var all []byte
	for _, piece := range l {
		if len(piece) > api.MaxBytes-len(all) {
			return api.Sum{}, api.ErrMany
		}
		all = append(all, piece...)
	}
	return digest(all), api.OK
}

// Pad returns the padding of n bytes.
func Pad(n int) ([]byte, api.Errno) {
	if n < 0 || n > api.MaxBytes {
		return nil, api.ErrArg
	}
	return padding(n), api.OK
}

// Block does a block to five words.
func Block(h [5]uint32, b []byte) ([5]uint32, api.Errno) {
	if len(b) != blockSize {
		return [5]uint32{}, api.ErrArg
	}
	return doBlock(h, b), api.OK
}

func digest(b []byte) api.Sum {
	whole := len(b) - len(b)%blockSize
	h := doBlocks(firstWords, b[:whole])
	// The rest is copied, as appending to b itself might write behind it.
	rest := make([]byte, 0, 2*blockSize)
	rest = append(rest, b[whole:]...)
	rest = append(rest, padding(len(b))...)
	return wordBytes(doBlocks(h, rest))
}

func padding(n int) []byte {
	zeros := (2*blockSize - 1 - 8 - n%blockSize) % blockSize
	p := make([]byte, 1+zeros+8)
	p[0] = 128
	for i := range 8 {
		p[len(p)-1-i] = byte(uint64(8*n) >> (8 * i))
	}
	return p
}

func doBlocks(h [5]uint32, b []byte) [5]uint32 {
	for at := 0; at < len(b); at += blockSize {
		h = doBlock(h, b[at:at+blockSize])
	}
	return h
}

func doBlock(h [5]uint32, b []byte) [5]uint32 {
	w := schedule(b)
	v := h
	for t := range 80 {
		f, k := mixed(t, v[1], v[2], v[3])
		sum := bits.RotateLeft32(v[0], 5) + f + v[4] + k + w[t]
		v = [5]uint32{sum, v[0], bits.RotateLeft32(v[1], 30), v[2], v[3]}
	}
	for i := range h {
		h[i] += v[i]
	}
	return h
}

func schedule(b []byte) [80]uint32 {
	var w [80]uint32
	for t := range 16 {
		w[t] = uint32(b[4*t])<<24 | uint32(b[4*t+1])<<16 | uint32(b[4*t+2])<<8 | uint32(b[4*t+3])
	}
	for t := 16; t < 80; t++ {
		w[t] = bits.RotateLeft32(w[t-3]^w[t-8]^w[t-14]^w[t-16], 1)
	}
	return w
}

func mixed(t int, b, c, d uint32) (f, k uint32) {
	switch {
	case t < 20:
		return b&c | ^b&d, 0x5a827999
	case t < 40:
		return b ^ c ^ d, 0x6ed9eba1
	case t < 60:
		return b&c | b&d | c&d, 0x8f1bbcdc
	}
	return b ^ c ^ d, 0xca62c1d6
}

func wordBytes(h [5]uint32) api.Sum {
	var d api.Sum
	for i := range d {
		d[i] = byte(h[i/4] >> (24 - 8*(i%4)))
	}
	return d
}
