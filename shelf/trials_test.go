package shelf

import (
	"fmt"
	"math/big"
	"math/rand"
	"slices"
	"testing"

	"pairlegal/api"
)

// How far it is to the end of a run.
const (
	near    = iota // within MaxTicks
	far            // further, but words come to it
	endless        // so far that nobody waits for it
)

// trial is how a program is tried: what must come of what comes in, what comes in, and how far it is to the end then (nil: it is near).
type trial struct {
	must   func(in string) answer
	inputs func(r *rand.Rand) []string
	way    func(in string) int
}

func (t trial) howFar(in string) int {
	if t.way == nil {
		return near
	}
	return t.way(in)
}

// trials are those of all programs, by their names.
func trials() map[string]trial {
	return map[string]trial{
		"ackermann": {ofNumbers(2, ackermannOf), ackermannInputs, nil},
		"adler":     {ofAll(adlerOf), texts, nil},
		"aliquot":   {lineOfNumbers(1, aliquotOf), aliquotInputs, aliquotWay},
		"base64":    {ofAll(toBase64), codeTexts, nil},
		"binary":    {ofNumbers(1, binaryOf), singles, nil},
		"cat":       {ofAll(func(in string) string { return in }), texts, nil},
		"collatz":   {lineOfNumbers(1, collatzOf), collatzInputs, nil},
		"count":     {ofAll(howMany), texts, nil},
		"crc":       {ofAll(crcOf), texts, nil},
		"digits":    {ofAll(digitsOf), texts, nil},
		"factorial": {ofNumbers(1, factorialOf), singles, nil},
		"fibonacci": {lineOfNumbers(1, fibonacciOf), fibonacciInputs, fibonacciWay},
		"gcd":       {lineOfNumbers(2, gcdOf), pairs, nil},
		"hanoi":     {ofNumbers(1, hanoiOf), hanoiInputs, hanoiWay},
		"hex":       {ofAll(toHex), texts, nil},
		"lcm":       {lineOfNumbers(2, lcmOf), pairs, nil},
		"luhn":      {ofAll(luhnOf), luhnTexts, nil},
		"mirror":    {ofFirst(200, mirrorOf), mirrorTexts, nil},
		"modpow":    {ofNumbers(3, modpowOf), threes, nil},
		"ones":      {ofAll(onesOf), texts, nil},
		"power":     {lineOfNumbers(2, powerOf), pairs, nil},
		"primes":    {ofNumbers(1, primesOf), singles, nil},
		"queens":    {ofNumbers(1, queensOf), queensInputs, queensWay},
		"reverse":   {ofFirst(200, turnedRound), mirrorTexts, nil},
		"root":      {lineOfNumbers(1, rootOf), rootInputs, nil},
		"rot13":     {ofAll(toRot13), texts, nil},
		"sort":      {ofFirst(64, inOrder), sortTexts, nil},
		"sum":       {ofAll(sumOf), sumTexts, nil},
		"upper":     {ofAll(toUpper), texts, nil},
		"words":     {ofAll(wordsOf), wordTexts, nil},
	}
}

// TestAllAreTried: each program of the chapter is, and none beside them.
func TestAllAreTried(t *testing.T) {
	all := trials()
	for _, name := range chapterNames() {
		if _, ok := all[name]; !ok {
			t.Errorf("%s is not tried", name)
		}
	}
	if len(all) != len(chapter) || !slices.Equal(Names(), chapterNames()) {
		t.Errorf("%d are tried", len(all))
	}
}

// one is the first number that comes in.
func one(in string) *big.Int {
	l, _ := numbers(in, 1)
	return l[0]
}

// wayOf is how far it is, if it takes so many ticks, and perhaps some hundreds more. What may be on either side no test asks.
func wayOf(ticks *big.Int) int {
	switch {
	case ticks.Cmp(big.NewInt(api.MaxTicks-1000)) < 0:
		return near
	case ticks.Cmp(big.NewInt(api.MaxTicks)) <= 0:
		panic(ticks.String() + " ticks are too near to MaxTicks")
	case ticks.Cmp(big.NewInt(3*api.MaxTicks)) < 0:
		return far
	}
	return endless
}

// fibonacciWay: each number on the way takes 16 ticks.
func fibonacciWay(in string) int { return wayOf(new(big.Int).Mul(one(in), big.NewInt(16))) }

// aliquotWay: each number on the way takes 14 ticks, and 4 more if it divides.
func aliquotWay(in string) int { return wayOf(new(big.Int).Mul(lower(one(in), 32), big.NewInt(14))) }

// hanoiWay: of twelve discs there are some 140000 ticks, and of each one more twice as many; of too many it soon ends.
func hanoiWay(in string) int {
	switch n := signed(one(in)); {
	case n <= 12 || n+2 > api.MaxCalls:
		return near
	case n <= 14:
		return far
	}
	return endless
}

// queensWay: of six there are some 70000 ticks, of seven already some 300000; of more than eight it soon ends.
func queensWay(in string) int {
	if n := signed(one(in)); n == 7 || n == 8 {
		return far
	}
	return near
}

// thinned has of all that nobody waits for just each tenth one: they cost the most time, and tell the least.
func thinned(l []string, way func(in string) int) (out []string) {
	met := 0
	for _, in := range l {
		if way(in) == endless {
			met++
		}
		if way(in) != endless || met%10 == 1 {
			out = append(out, in)
		}
	}
	return out
}

func fibonacciInputs(r *rand.Rand) []string {
	out := append(thinned(singles(r), fibonacciWay), "12000", "12800", "13000 ", "20000")
	for range 50 {
		out = append(out, fmt.Sprint(r.Intn(12000)))
	}
	return out
}

// aliquotInputs: numbers that are the sum of what divides them, pairs that are each other's, and the bound of 32 bits.
func aliquotInputs(r *rand.Rand) []string {
	out := append(thinned(singles(r), aliquotWay), "28", "496", "8128", "220 284", "284", "1184", "1210", "13000", "14000", "14300", "20000 ", "27720", "4294967302 ", "4294967324", "8589934592", "8589935088", "18446744073709551616", "18446744073709551644")
	for range 60 {
		out = append(out, fmt.Sprint(r.Intn(2000)), fmt.Sprint(r.Int63n(1<<30)<<32+r.Int63n(1000)))
	}
	return out
}

func collatzInputs(r *rand.Rand) []string {
	return append(append(singles(r), counted(1200)...), "6171", "77031", "837799 ", "63728127", "75128138247", "12327829503", "9780657630", "6148914691236517205", "6148914691236517206", "12297829382473034410", "12297829382473034411")
}

// hanoiInputs: the lower 16 bits count, with a sign.
func hanoiInputs(r *rand.Rand) []string {
	out := append(singles(r), "57", "58", "59", "60", "61", "32767", "32768", "65534", "65535", "65536", "65537", "65539 ", "65594", "65595", "131074", "18446744073709486083", "18446744073709551615")
	for range 50 {
		out = append(out, fmt.Sprint(r.Int63n(1<<40)<<16+r.Int63n(12)))
	}
	return out
}

func queensInputs(r *rand.Rand) []string {
	out := append(singles(r), "32767", "32768", "65535", "65536", "65537", "65540 ", "65541", "65542", "65544", "131082", "18446744073709486085", "18446744073709551615")
	for range 50 {
		out = append(out, fmt.Sprint(r.Int63n(1<<40)<<16+r.Int63n(6)), fmt.Sprint(9+r.Intn(500)))
	}
	return out
}

// rootInputs: squares, and the numbers next to them.
func rootInputs(r *rand.Rand) []string {
	out := singles(r)
	roots := []uint64{1, 2, 3, 10, 255, 256, 65535, 65536, 1 << 31, 1<<31 - 1, 1<<31 + 1, 1<<32 - 2, 1<<32 - 1}
	for range 200 {
		roots = append(roots, uint64(r.Uint32()>>r.Intn(32)))
	}
	for _, n := range roots {
		out = append(out, fmt.Sprint(n*n), fmt.Sprint(n*n-1), fmt.Sprint(n*n+1), fmt.Sprint(n*n+2*n))
	}
	return out
}

// ackermannInputs: as far as its calls are not too many, and one further.
func ackermannInputs(r *rand.Rand) []string {
	out := pairs(r)
	for n := range 70 {
		for m := range 7 {
			out = append(out, fmt.Sprintf("%d %d", m, n))
		}
		out = append(out, fmt.Sprintf("%d 0", n), fmt.Sprintf("%d\n1\n", n))
	}
	return out
}
