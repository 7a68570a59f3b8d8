package types

import (
	"pairlegal/api"
	"pairlegal/word"
)

// Result answers the type of what an operator makes of numbers of the types a and b.
func Result(kind int, a, b api.Type) api.Type {
	switch {
	case shifts(kind):
		return Promote(a)
	case compares(kind):
		return i16()
	}
	return Common(a, b)
}

// Binary answers what an operator makes of a, a number of type x, and b, one of type y.
func Binary(kind int, a, b uint64, x, y api.Type) (uint64, api.Errno) {
	if !Valid(x) || !Valid(y) || kind < api.CMul || kind > api.COr {
		return 0, api.ErrKind
	}
	if shifts(kind) {
		t := Promote(x)
		return shifted(kind, Convert(a, x, t), Convert(b, y, api.Type{Bits: 16}), t)
	}
	t := Common(x, y)
	a, b = Convert(a, x, t), Convert(b, y, t)
	if compares(kind) {
		return oneIf(holds(kind, a, b, t)), api.OK
	}
	return worked(kind, a, b, t)
}

// Unary answers what an operator makes of a, a number of type x, and that one's type.
func Unary(kind int, a uint64, x api.Type) (uint64, api.Type, api.Errno) {
	if !Valid(x) {
		return 0, api.Type{}, api.ErrKind
	}
	t := Promote(x)
	a = Convert(a, x, t)
	switch kind {
	case api.CNeg:
		return cut(-a, t), t, api.OK
	case api.CNot:
		return cut(^a, t), t, api.OK
	case api.CLog:
		return oneIf(a == 0), i16(), api.OK
	}
	return 0, api.Type{}, api.ErrKind
}

func shifts(kind int) bool { return kind == api.CShl || kind == api.CShr }

func compares(kind int) bool { return kind >= api.CLt && kind <= api.CNe }

// shifted moves a, a number of type t, by n places.
func shifted(kind int, a, n uint64, t api.Type) (uint64, api.Errno) {
	if kind == api.CShl {
		return word.Shl(a, n, t.Bits)
	}
	return word.Shr(a, n, t.Bits, t.Signed)
}

// holds compares two numbers of type t; they are cut to it, so they mean the same just where their bits are the same.
func holds(kind int, a, b uint64, t api.Type) bool {
	switch kind {
	case api.CLt:
		return less(a, b, t)
	case api.CLe:
		return !less(b, a, t)
	case api.CGt:
		return less(b, a, t)
	case api.CGe:
		return !less(a, b, t)
	case api.CEq:
		return a == b
	}
	return a != b
}

func less(a, b uint64, t api.Type) bool {
	out, _ := word.Less(a, b, t.Bits, t.Signed)
	return out
}

// worked does what neither shifts nor compares, with two numbers of type t.
func worked(kind int, a, b uint64, t api.Type) (uint64, api.Errno) {
	switch kind {
	case api.CMul:
		return word.Mul(a, b, t.Bits)
	case api.CDiv:
		return word.Div(a, b, t.Bits, t.Signed)
	case api.CRem:
		return word.Rem(a, b, t.Bits, t.Signed)
	case api.CAdd:
		return word.Add(a, b, t.Bits)
	case api.CSub:
		return word.Sub(a, b, t.Bits)
	case api.CAnd:
		return a & b, api.OK
	case api.CXor:
		return a ^ b, api.OK
	}
	return a | b, api.OK
}

func oneIf(b bool) uint64 {
	if b {
		return 1
	}
	return 0
}
