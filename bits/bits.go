// Package bits is layer 1: see shared/doc/01-bits.md.
package bits

import (
	"bytes"
	"iter"
	"slices"

	"lockbar/api"
)

// widest is the greatest width of a number.
const widest = 32

// Right: P1.1.
func Right(x api.Bits) bool {
	if x.N < 0 || len(x.B) != size(x.N) {
		return false
	}
	part := x.N % 8
	return part == 0 || x.B[len(x.B)-1]<<part == 0
}

// Put: P1.2.
func Put(x api.Bits, n, width int) (api.Bits, api.Errno) {
	if !Right(x) {
		goto wrong
	}
	if !fits(n, width) {
		goto wrong
	}
	return behind(x, width, digits(n, width)), api.OK
wrong:
	return api.Bits{}, api.ErrArg
}

// Take: P1.3.
func Take(x api.Bits, at, width int) (int, api.Errno) {
	n, e := 0, api.ErrArg
	if !Right(x) || !wide(width) || at < 0 {
		goto wrong
	}
	// at + width could wrap round, x.N - width can not.
	if at > x.N-width {
		e = api.ErrShort
		goto wrong
	}
	for bit := range span(x, at, width) {
		n <<= 1
		if bit {
			n |= 1
		}
	}
	return n, api.OK
wrong:
	return 0, e
}

// Flags: P1.2.
func Flags(x api.Bits, l ...bool) (api.Bits, api.Errno) {
	if !Right(x) {
		goto wrong
	}
	return behind(x, len(l), slices.Values(l)), api.OK
wrong:
	return api.Bits{}, api.ErrArg
}

// Pad: P1.2.
func Pad(x api.Bits) (api.Bits, api.Errno) {
	// Whatever N is, this width may be: of wrong bits Put tells the error.
	return Put(x, 0, (8-x.N%8)%8)
}

// Of: P1.1.
func Of(b []byte) api.Bits {
	return Own(api.Bits{B: b, N: 8 * len(b)})
}

// Own: P1.1.
func Own(x api.Bits) api.Bits {
	b := make([]byte, len(x.B))
	copy(b, x.B)
	return api.Bits{B: b, N: x.N}
}

// Same: P1.1.
func Same(a, b api.Bits) bool {
	return a.N == b.N && bytes.Equal(a.B, b.B)
}

// size is how many bytes n bits want. It divides first, since n + 7 could wrap round.
func size(n int) int {
	if n%8 != 0 {
		return n/8 + 1
	}
	return n / 8
}

// wide tells whether a number may have this width.
func wide(width int) bool {
	return width >= 0 && width <= widest
}

// fits tells whether n has room in this width.
func fits(n, width int) bool {
	return wide(width) && n >= 0 && n>>width == 0
}

// digits gives the bits of n, the highest of its width first.
func digits(n, width int) iter.Seq[bool] {
	return func(yield func(bool) bool) {
		for i := width - 1; i >= 0; i-- {
			if !yield(n>>i&1 == 1) {
				return
			}
		}
	}
}

// span gives so many bits of x, from the bit at on.
func span(x api.Bits, at, width int) iter.Seq[bool] {
	return func(yield func(bool) bool) {
		for i := at; i < at+width; i++ {
			if !yield(x.B[i/8]>>(7-i%8)&1 == 1) {
				return
			}
		}
	}
}

// behind gives the bits of x and, behind them, the more that come, in memory of their own.
func behind(x api.Bits, more int, come iter.Seq[bool]) api.Bits {
	o := api.Bits{B: make([]byte, size(x.N+more)), N: x.N}
	copy(o.B, x.B)
	for bit := range come {
		if bit {
			o.B[o.N/8] |= 128 >> (o.N % 8)
		}
		o.N++
	}
	return o
}
