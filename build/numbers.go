package build

import (
	"pairlegal/api"
	"pairlegal/types"
	"pairlegal/word"
)

const (
	byteMask = 255
	byteSign = 128
	allOnes  = 65535
)

// wordsOf answers the words of a number. One of 8 bits fills its word as its sign says, so that it is right as one of 16 bits, too.
func wordsOf(n uint64, t api.Type) []int {
	if t.Bits < i16().Bits {
		n, t = types.Convert(n, t, i16()), i16()
	}
	out, _ := word.Split(n, t.Bits)
	return out
}

// number takes a number in hand.
func (w *writer) number(n uint64, t api.Type) {
	for k, x := range wordsOf(n, t) {
		w.set(k, x)
	}
}

// pushNumber lays the number in hand onto the stack, its lowest word on top.
func (w *writer) pushNumber(t api.Type) {
	for k := types.Words(t) - 1; k >= 0; k-- {
		w.push(k)
	}
}

func (w *writer) popNumber(t api.Type) {
	for k := range types.Words(t) {
		w.pop(k)
	}
}

// convert makes the number in hand one of another type. To less words nothing is to be done.
func (w *writer) convert(from, to api.Type) {
	if to.Bits < i16().Bits {
		if from != to {
			w.cutToByte(to.Signed)
		}
		return
	}
	n := types.Words(from)
	for k := n; k < types.Words(to); k++ {
		switch {
		case !from.Signed:
			w.set(k, 0)
		case k == n:
			w.fillWithSign(k)
		default:
			w.both(api.OpMov, k, k-1)
		}
	}
}

// fillWithSign makes a register the word that stands above the one ahead of it: all its bits are that one's highest bit, which goes out into C, and is taken away from 0.
func (w *writer) fillWithSign(d int) {
	w.both(api.OpMov, d, d-1)
	w.do(api.OpShl, d, 0, 0)
	w.both(api.OpSbc, d, d)
}

// cutToByte leaves the lower 8 bits of the number in hand; with a sign the highest one of these is turned over, and taken away, whereby it fills those above it.
func (w *writer) cutToByte(signed bool) {
	w.set(spare, byteMask)
	w.both(api.OpAnd, 0, spare)
	if signed {
		w.set(spare, byteSign)
		w.both(api.OpXor, 0, spare)
		w.both(api.OpSub, 0, spare)
	}
}

// negate makes the number in hand its opposite.
func (w *writer) negate(t api.Type) {
	for k := range types.Words(t) {
		w.set(spare, 0)
		w.both(chained(k, api.OpSub, api.OpSbc), spare, k)
		w.both(api.OpMov, k, spare)
	}
}

// invert turns each bit of the number in hand over.
func (w *writer) invert(t api.Type) {
	w.set(spare, allOnes)
	for k := range types.Words(t) {
		w.both(api.OpXor, k, spare)
	}
}

// test sets Z, if the number in hand is 0.
func (w *writer) test(t api.Type) {
	w.both(api.OpOr, 0, 0)
	for k := 1; k < types.Words(t); k++ {
		w.both(api.OpOr, 0, k)
	}
}

// chained is first for the lowest word, and rest, which takes a carry in, for those above it.
func chained(k, first, rest int) int {
	if k == 0 {
		return first
	}
	return rest
}

func i16() api.Type { return api.Type{Bits: 16, Signed: true} }

func u16() api.Type { return api.Type{Bits: 16} }
