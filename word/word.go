// Package word has numbers of 8, 16, 32 and 64 bits that wrap round, and does with them word by word what the machine does: see doc/01-word.md.
package word

import (
	"math/bits"

	"pairlegal/api"
)

// Width tells whether numbers may have w bits.
func Width(w int) bool { return w == 8 || w == 16 || w == 32 || w == 64 }

// Cut answers the lower w bits of x.
func Cut(x uint64, w int) (uint64, api.Errno) {
	return ofOne(x, w, func(x uint64) uint64 { return x })
}

// Signed answers what x means with a sign.
func Signed(x uint64, w int) (int64, api.Errno) {
	if !Width(w) {
		return 0, api.ErrKind
	}
	return meaning(x, w), api.OK
}

// Add answers a + b.
func Add(a, b uint64, w int) (uint64, api.Errno) {
	return ofTwo(a, b, w, func(a, b uint64) uint64 { return a + b })
}

// Sub answers a - b.
func Sub(a, b uint64, w int) (uint64, api.Errno) {
	return ofTwo(a, b, w, func(a, b uint64) uint64 { return a - b })
}

// Mul answers a times b.
func Mul(a, b uint64, w int) (uint64, api.Errno) {
	return ofTwo(a, b, w, func(a, b uint64) uint64 { return a * b })
}

// Div answers the quotient of a and b, rounded towards 0.
func Div(a, b uint64, w int, signed bool) (uint64, api.Errno) {
	return divided(a, b, w, func(a, b uint64) uint64 {
		if signed {
			return uint64(meaning(a, w) / meaning(b, w))
		}
		return a / b
	})
}

// Rem answers what Div leaves of a.
func Rem(a, b uint64, w int, signed bool) (uint64, api.Errno) {
	return divided(a, b, w, func(a, b uint64) uint64 {
		if signed {
			return uint64(meaning(a, w) % meaning(b, w))
		}
		return a % b
	})
}

// Shl answers a times 2^n.
func Shl(a, n uint64, w int) (uint64, api.Errno) {
	return ofOne(a, w, func(a uint64) uint64 { return a << n })
}

// Shr answers a divided by 2^n, rounded down.
func Shr(a, n uint64, w int, signed bool) (uint64, api.Errno) {
	return ofOne(a, w, func(a uint64) uint64 {
		if signed {
			return uint64(meaning(a, w) >> n)
		}
		return a >> n
	})
}

// Less tells whether a means less than b.
func Less(a, b uint64, w int, signed bool) (bool, api.Errno) {
	if !Width(w) {
		return false, api.ErrKind
	}
	if signed {
		return meaning(a, w) < meaning(b, w), api.OK
	}
	return lower(a, w) < lower(b, w), api.OK
}

// Bits answers how many of the lower w bits of x are 1.
func Bits(x uint64, w int) (int, api.Errno) {
	if !Width(w) {
		return 0, api.ErrKind
	}
	return bits.OnesCount64(lower(x, w)), api.OK
}

// ofOne does one thing with one number, and keeps what comes within the width.
func ofOne(x uint64, w int, do func(x uint64) uint64) (uint64, api.Errno) {
	if !Width(w) {
		return 0, api.ErrKind
	}
	return lower(do(lower(x, w)), w), api.OK
}

// ofTwo does one thing with two numbers, and keeps what comes within the width.
func ofTwo(a, b uint64, w int, do func(a, b uint64) uint64) (uint64, api.Errno) {
	return ofOne(a, w, func(a uint64) uint64 { return do(a, lower(b, w)) })
}

// divided is ofTwo for what can't be done with a b of 0; the width is looked at first, since it says which bits of b count.
func divided(a, b uint64, w int, do func(a, b uint64) uint64) (uint64, api.Errno) {
	if !Width(w) {
		return 0, api.ErrKind
	}
	if lower(b, w) == 0 {
		return 0, api.ErrZero
	}
	return ofTwo(a, b, w, do)
}

// lower is Cut for a w that is known to be a width.
func lower(x uint64, w int) uint64 { return x & (^uint64(0) >> (64 - w)) }

// meaning is Signed for a w that is known to be a width: the top bit is moved to where Go keeps the sign, and back with it.
func meaning(x uint64, w int) int64 { return int64(x<<(64-w)) >> (64 - w) }
