package word

import "pairlegal/api"

const (
	wordBits = 16
	maxWord  = 1<<wordBits - 1
	maxWords = 4
)

// step is what is done with two words, and what the word below them hands on.
type step func(a, b int, carry bool) (int, api.Flags)

// Split answers the words of x, the lowest one first.
func Split(x uint64, w int) ([]int, api.Errno) {
	if !Width(w) {
		return nil, api.ErrKind
	}
	x = lower(x, w)
	out := make([]int, max(1, w/wordBits))
	for i := range out {
		out[i] = int(x & maxWord)
		x >>= wordBits
	}
	return out, api.OK
}

// Join answers the number that the words make, the lowest one first.
func Join(l []int) (uint64, api.Errno) {
	if !fewEnough(l) {
		return 0, api.ErrMany
	}
	out := uint64(0)
	for i, x := range l {
		if x < 0 || x > maxWord {
			return 0, api.ErrRange
		}
		out |= uint64(x) << (i * wordBits)
	}
	return out, api.OK
}

// Sum answers a + b, and 1 if carry, with the flags.
func Sum(a, b int, carry bool) (int, api.Flags) {
	return flagged(a, b, func(a, b int) int { return a + b + oneIf(carry) })
}

// Difference answers a - b, less 1 if borrow, with the flags.
func Difference(a, b int, borrow bool) (int, api.Flags) {
	return flagged(a, b, func(a, b int) int { return a - b - oneIf(borrow) })
}

// AddWords adds two lists of words.
func AddWords(a, b []int) ([]int, api.Flags, api.Errno) {
	return wordByWord(a, b, Sum)
}

// SubWords takes the words of b away from those of a.
func SubWords(a, b []int) ([]int, api.Flags, api.Errno) {
	return wordByWord(a, b, Difference)
}

// flagged does one thing with two words twice, without a sign and with one: what does not fit into a word the first time is the carry, the second time the overflow.
func flagged(a, b int, do func(a, b int) int) (int, api.Flags) {
	a, b = a&maxWord, b&maxWord
	whole := do(a, b)
	out := whole & maxWord
	return out, api.Flags{
		C: whole != out,
		Z: out == 0,
		N: signedWord(out) < 0,
		V: do(signedWord(a), signedWord(b)) != signedWord(out),
	}
}

// wordByWord goes up two lists that are as long; Z is gathered, since the last word's own tells nothing of those below it.
func wordByWord(a, b []int, do step) ([]int, api.Flags, api.Errno) {
	if len(a) != len(b) || !fewEnough(a) {
		return nil, api.Flags{}, api.ErrMany
	}
	next := chained(do)
	out := make([]int, len(a))
	var last api.Flags
	allZero := true
	for i := range a {
		out[i], last = next(a[i], b[i])
		allZero = allZero && last.Z
	}
	last.Z = allZero
	return out, last, api.OK
}

// chained answers a function that keeps the carry of each call for the next one.
func chained(do step) func(a, b int) (int, api.Flags) {
	carry := false
	return func(a, b int) (int, api.Flags) {
		out, f := do(a, b, carry)
		carry = f.C
		return out, f
	}
}

func fewEnough(l []int) bool { return len(l) >= 1 && len(l) <= maxWords }

func signedWord(x int) int { return int(int16(x)) }

func oneIf(carry bool) int {
	if carry {
		return 1
	}
	return 0
}
