package types

import (
	"math/big"
	"strings"
	"testing"

	"pairlegal/api"
)

// noBinary has the kinds next to CMul and COr, the other kinds of expressions, and the ends of int.
var noBinary = []int{-1 << 63, -24, -9, -1, 0, api.CNum, api.CVar, api.CAt, api.CCall, api.CCast, api.CNeg, api.CNot, api.CLog, api.CLand, api.CLor, 27, 28, 100, 256 + api.CAdd, 1<<32 + api.CAdd, 1<<63 - 1}

// G3

func TestResult(t *testing.T) {
	want := strings.Fields(common)
	kinds := append([]int{}, noBinary...)
	for kind := api.CMul; kind <= api.COr; kind++ {
		kinds = append(kinds, kind)
	}
	promoted := []api.Type{i16t, i16t, i16t, u16t, i32t, u32t, i64t, u64t}
	for _, kind := range kinds {
		for i, a := range allTypes() {
			for j, b := range allTypes() {
				must := want[i*8+j]
				switch kind {
				case api.CShl, api.CShr:
					must = Name(promoted[i])
				case api.CLt, api.CLe, api.CGt, api.CGe, api.CEq, api.CNe:
					must = "i16"
				}
				if got := Name(Result(kind, a, b)); got != must {
					t.Errorf("Result(%d, %s, %s): %s comes, not %s", kind, Name(a), Name(b), got, must)
				}
			}
		}
	}
}

func TestBinaryByHand(t *testing.T) {
	for _, c := range []struct {
		kind int
		a, b uint64
		x, y api.Type
		want uint64
	}{
		{api.CMul, 200, 200, u8t, u8t, 40000}, {api.CMul, 255, 255, i8t, i8t, 1}, {api.CMul, 255, 255, u8t, i8t, 65281}, {api.CMul, 65535, 65535, u16t, u16t, 1},
		{api.CMul, 65536, 65536, u32t, i32t, 0}, {api.CMul, 65536, 65536, u32t, i64t, 1 << 32},
		{api.CAdd, 250, 10, u8t, u8t, 260}, {api.CAdd, 32767, 1, i16t, i16t, 32768}, {api.CAdd, 65535, 1, u16t, u16t, 0}, {api.CAdd, 65535, 1, i16t, i32t, 0}, {api.CAdd, 65535, 1, u16t, i32t, 65536},
		{api.CSub, 0, 1, u8t, u8t, 65535}, {api.CSub, 0, 1, u8t, u32t, 1<<32 - 1}, {api.CSub, 5, 3, i64t, i8t, 2}, {api.CSub, 5, 255, i64t, i8t, 6},
		{api.CDiv, 249, 2, i8t, i8t, 65533}, {api.CRem, 249, 2, i8t, i8t, 65535}, {api.CDiv, 249, 2, u8t, u8t, 124}, {api.CRem, 249, 2, u8t, u8t, 1},
		{api.CDiv, 128, 255, i8t, i8t, 128}, {api.CRem, 128, 255, i8t, i8t, 0},
		{api.CDiv, 32768, 65535, i16t, i16t, 32768}, {api.CRem, 32768, 65535, i16t, i16t, 0}, {api.CDiv, 32768, 65535, i16t, u16t, 0}, {api.CRem, 32768, 65535, i16t, u16t, 32768},
		{api.CDiv, 1 << 31, 1<<32 - 1, i32t, i32t, 1 << 31}, {api.CDiv, 1 << 63, 1<<64 - 1, i64t, i64t, 1 << 63}, {api.CRem, 1 << 63, 1<<64 - 1, i64t, i64t, 0},
		{api.CDiv, 1 << 63, 255, i64t, i8t, 1 << 63}, {api.CDiv, 7, 65535, i16t, i16t, 65529}, {api.CRem, 7, 65534, i16t, i16t, 1}, {api.CDiv, 65529, 2, i16t, u16t, 32764},
		{api.CShl, 1, 7, u8t, u8t, 128}, {api.CShl, 1, 8, u8t, u8t, 256}, {api.CShl, 1, 15, i8t, u64t, 32768}, {api.CShl, 1, 16, u16t, u16t, 0}, {api.CShl, 1, 16, u16t, u64t, 0}, {api.CShl, 1, 17, i32t, i8t, 1 << 17},
		{api.CShl, 1, 31, u32t, i8t, 1 << 31}, {api.CShl, 1, 32, u32t, i8t, 0}, {api.CShl, 3, 63, i64t, u8t, 1 << 63}, {api.CShl, 3, 64, i64t, u8t, 0}, {api.CShl, 3, 255, i64t, i8t, 0}, {api.CShl, 3, 1 << 63, u64t, i64t, 3},
		{api.CShl, 3, 65536, u64t, u32t, 3}, {api.CShl, 3, 65537, u64t, u32t, 6}, {api.CShl, 3, 257, u64t, u8t, 6}, {api.CShl, 3, 1<<64 - 1, u64t, i64t, 0},
		{api.CShr, 255, 1, i8t, u8t, 65535}, {api.CShr, 255, 1, u8t, u8t, 127}, {api.CShr, 32768, 15, i16t, i16t, 65535}, {api.CShr, 32768, 16, i16t, i16t, 65535}, {api.CShr, 32768, 15, u16t, i16t, 1}, {api.CShr, 32768, 16, u16t, i16t, 0},
		{api.CShr, 32768, 65535, i16t, i16t, 65535}, {api.CShr, 32767, 65535, i16t, i16t, 0}, {api.CShr, 1 << 63, 255, i64t, i8t, 1<<64 - 1}, {api.CShr, 1 << 63, 255, u64t, i8t, 0}, {api.CShr, 1 << 63, 65536, i64t, u32t, 1 << 63},
		{api.CShr, 128, 1, i8t, u64t, 65472}, {api.CShr, 1 << 31, 31, i32t, u64t, 1<<32 - 1}, {api.CShr, 1 << 31, 31, u32t, u64t, 1},
		{api.CLt, 255, 1, i8t, u8t, 1}, {api.CLt, 255, 1, u8t, i8t, 0}, {api.CLt, 65535, 1, i16t, u16t, 0}, {api.CLt, 65535, 1, i16t, i16t, 1}, {api.CLt, 65535, 1, i16t, u32t, 0}, {api.CLt, 65535, 1, i16t, i32t, 1}, {api.CLt, 65535, 1, u16t, i32t, 0},
		{api.CLe, 5, 5, u8t, i64t, 1}, {api.CLe, 6, 5, u8t, i64t, 0}, {api.CGt, 65535, 0, i16t, u64t, 1}, {api.CGt, 65535, 0, i16t, i64t, 0}, {api.CGe, 5, 5, i8t, i8t, 1}, {api.CGe, 128, 127, i8t, i8t, 0},
		{api.CEq, 255, 65535, i8t, u16t, 1}, {api.CEq, 255, 65535, u8t, u16t, 0}, {api.CEq, 255, 65535, i8t, i16t, 1}, {api.CEq, 256 + 5, 5, u8t, u64t, 1}, {api.CNe, 65535, 1<<32 - 1, i16t, u32t, 0}, {api.CNe, 65535, 1<<32 - 1, u16t, u32t, 1},
		{api.CAnd, 12, 10, u8t, u8t, 8}, {api.CXor, 12, 10, u8t, u8t, 6}, {api.COr, 12, 10, u8t, u8t, 14}, {api.CAnd, 255, 65535, i8t, u16t, 65535}, {api.CAnd, 255, 65535, u8t, u16t, 255},
		{api.COr, 128, 0, i8t, u64t, 1<<64 - 128}, {api.CXor, 255, 255, i8t, u8t, 65280},
	} {
		got, err := Binary(c.kind, c.a, c.b, c.x, c.y)
		if got != c.want || err != api.OK {
			t.Errorf("Binary(%d, %d, %d, %s, %s): %d, %d comes, not %d", c.kind, c.a, c.b, Name(c.x), Name(c.y), got, err, c.want)
		}
	}
}

func bigIf(b bool) *big.Int {
	if b {
		return big.NewInt(1)
	}
	return big.NewInt(0)
}

// moved is what a shift means: a product or a quotient rounded down. What is moved by more places than any type has comes to the same as by 100.
func moved(kind int, a *big.Int, places uint64) *big.Int {
	by := power(int(min(places, 100)))
	if kind == api.CShl {
		return new(big.Int).Mul(a, by)
	}
	return new(big.Int).Div(a, by)
}

// inWholes works out an operator in whole numbers without bounds; nil, if b is 0 and must not be.
func inWholes(kind int, a, b *big.Int) *big.Int {
	out := new(big.Int)
	switch kind {
	case api.CMul:
		return out.Mul(a, b)
	case api.CAdd:
		return out.Add(a, b)
	case api.CSub:
		return out.Sub(a, b)
	case api.CAnd:
		return out.And(a, b)
	case api.CXor:
		return out.Xor(a, b)
	case api.COr:
		return out.Or(a, b)
	case api.CLt:
		return bigIf(a.Cmp(b) < 0)
	case api.CLe:
		return bigIf(a.Cmp(b) <= 0)
	case api.CGt:
		return bigIf(a.Cmp(b) > 0)
	case api.CGe:
		return bigIf(a.Cmp(b) >= 0)
	case api.CEq:
		return bigIf(a.Cmp(b) == 0)
	case api.CNe:
		return bigIf(a.Cmp(b) != 0)
	}
	if b.Sign() == 0 {
		return nil
	}
	if kind == api.CDiv {
		return out.Quo(a, b)
	}
	return out.Rem(a, b)
}

// mustBe is Binary by the document's words; the types that it goes by are those of the test's own tables.
func mustBe(kind int, a, b uint64, x, y api.Type) (uint64, api.Errno) {
	wide := typeNamed(strings.Fields(common)[indexOf(x)*8+indexOf(y)])
	switch kind {
	case api.CShl, api.CShr:
		up := x
		if x.Bits == 8 {
			up = i16t
		}
		return modulo(moved(kind, means(a, x), modulo(means(b, y), u16t)), up), api.OK
	}
	a, b = modulo(means(a, x), wide), modulo(means(b, y), wide)
	out := inWholes(kind, means(a, wide), means(b, wide))
	if out == nil {
		return 0, api.ErrZero
	}
	return modulo(out, wide), api.OK
}

func indexOf(x api.Type) int {
	for i, t := range allTypes() {
		if t == x {
			return i
		}
	}
	return -1
}

func typeNamed(s string) api.Type {
	return allTypes()[strings.Index("i8 u8 i16u16i32u32i64u64", s)/3]
}

func TestBinary(t *testing.T) {
	l := numbers()
	for kind := api.CMul; kind <= api.COr; kind++ {
		for _, x := range allTypes() {
			for _, y := range allTypes() {
				for i, a := range l {
					// Each pair of numbers comes up at some kind and some types; 0, 1 and -1 stand beside each at all of them.
					for _, b := range []uint64{0, 1, 1<<64 - 1, l[(i+kind)%len(l)], l[(3*i+x.Bits+kind)%len(l)], l[(i+y.Bits/8)%len(l)], a, -a, uint64(i)} {
						want, wantErr := mustBe(kind, a, b, x, y)
						got, err := Binary(kind, a, b, x, y)
						if got != want || err != wantErr {
							t.Fatalf("Binary(%d, %d, %d, %s, %s): %d, %d comes, not %d, %d", kind, a, b, Name(x), Name(y), got, err, want, wantErr)
						}
					}
				}
			}
		}
	}
}

// TestShiftsByAnything goes through what b may be at a shift: as many places as there are bits, one more and less, and numbers below 0.
func TestShiftsByAnything(t *testing.T) {
	places := []uint64{0, 1, 7, 8, 9, 15, 16, 17, 31, 32, 33, 63, 64, 65, 127, 128, 255, 256, 257, 32767, 32768, 65535, 65536, 65537, 1 << 31, 1<<32 - 1, 1 << 32, 1<<32 + 1, 1 << 63, 1<<63 + 1, 1<<64 - 65536, 1<<64 - 65535, 1<<64 - 2, 1<<64 - 1}
	for _, kind := range []int{api.CShl, api.CShr} {
		for _, x := range allTypes() {
			for _, y := range allTypes() {
				for _, a := range numbers() {
					for _, b := range places {
						want, _ := mustBe(kind, a, b, x, y)
						if got, err := Binary(kind, a, b, x, y); got != want || err != api.OK {
							t.Fatalf("Binary(%d, %d, %d, %s, %s): %d, %d comes, not %d", kind, a, b, Name(x), Name(y), got, err, want)
						}
					}
				}
			}
		}
	}
}

// TestDivisorOfNought has divisors that are 0 only in the bits of their type, and 0 of one type beside the other.
func TestDivisorOfNought(t *testing.T) {
	for _, kind := range []int{api.CDiv, api.CRem} {
		for _, x := range allTypes() {
			for _, y := range allTypes() {
				divisors := []uint64{0}
				if y.Bits < 64 {
					divisors = append(divisors, 1<<y.Bits, 1<<63, 3<<y.Bits, -(uint64(1) << y.Bits))
				}
				for _, b := range divisors {
					for _, a := range []uint64{0, 1, 128, 1 << 63, 1<<64 - 1} {
						if got, err := Binary(kind, a, b, x, y); got != 0 || err != api.ErrZero {
							t.Errorf("Binary(%d, %d, %d, %s, %s): %d, %d comes, not 0, %d", kind, a, b, Name(x), Name(y), got, err, api.ErrZero)
						}
					}
				}
			}
		}
	}
}

// TestResultHasIt: what comes has no bits that Result's type has not.
func TestResultHasIt(t *testing.T) {
	for kind := api.CMul; kind <= api.COr; kind++ {
		for _, x := range allTypes() {
			for _, y := range allTypes() {
				for _, a := range numbers() {
					got, _ := Binary(kind, a, ^a|1, x, y)
					if r := Result(kind, x, y); got != modulo(new(big.Int).SetUint64(got), r) {
						t.Fatalf("Binary(%d, %d, .., %s, %s): %d is not of type %s", kind, a, Name(x), Name(y), got, Name(r))
					}
				}
			}
		}
	}
}

func TestBinaryOfWhatIsNone(t *testing.T) {
	wrong := func(kind int, b uint64, x, y api.Type) {
		if got, err := Binary(kind, 1<<64-1, b, x, y); got != 0 || err != api.ErrKind {
			t.Errorf("Binary(%d, .., %d, %v, %v): %d, %d comes, not 0, %d", kind, b, x, y, got, err, api.ErrKind)
		}
	}
	for _, kind := range noBinary {
		for _, x := range allTypes() {
			for _, y := range allTypes() {
				wrong(kind, 0, x, y)
				wrong(kind, 3, x, y)
			}
		}
	}
	for kind := -2; kind <= 30; kind++ {
		for _, none := range noTypes() {
			for _, x := range allTypes() {
				// A divisor of 0 is wrong likewise, but told later.
				for _, b := range []uint64{0, 3} {
					wrong(kind, b, none, x)
					wrong(kind, b, x, none)
					wrong(kind, b, none, none)
				}
			}
		}
	}
}

func TestUnaryByHand(t *testing.T) {
	for _, c := range []struct {
		kind int
		a    uint64
		x    api.Type
		want uint64
		is   api.Type
	}{
		{api.CNeg, 5, u8t, 65531, i16t}, {api.CNeg, 5, i16t, 65531, i16t}, {api.CNeg, 5, u16t, 65531, u16t}, {api.CNeg, 128, i8t, 128, i16t}, {api.CNeg, 255, u8t, 65281, i16t}, {api.CNeg, 255, i8t, 1, i16t},
		{api.CNeg, 0, i64t, 0, i64t}, {api.CNeg, 32768, i16t, 32768, i16t}, {api.CNeg, 1 << 31, i32t, 1 << 31, i32t}, {api.CNeg, 1, u32t, 1<<32 - 1, u32t}, {api.CNeg, 1 << 63, i64t, 1 << 63, i64t}, {api.CNeg, 1, u64t, 1<<64 - 1, u64t},
		{api.CNot, 0, u8t, 65535, i16t}, {api.CNot, 255, u8t, 65280, i16t}, {api.CNot, 255, i8t, 0, i16t}, {api.CNot, 1, u16t, 65534, u16t}, {api.CNot, 0, u32t, 1<<32 - 1, u32t}, {api.CNot, 1<<64 - 1, u64t, 0, u64t},
		{api.CLog, 0, u8t, 1, i16t}, {api.CLog, 256, u8t, 1, i16t}, {api.CLog, 256, u16t, 0, i16t}, {api.CLog, 0, u64t, 1, i16t}, {api.CLog, 1 << 63, i64t, 0, i16t}, {api.CLog, 1 << 63, i32t, 1, i16t}, {api.CLog, 7, u32t, 0, i16t},
	} {
		got, is, err := Unary(c.kind, c.a, c.x)
		if got != c.want || is != c.is || err != api.OK {
			t.Errorf("Unary(%d, %d, %s): %d, %v, %d comes, not %d, %v", c.kind, c.a, Name(c.x), got, is, err, c.want, c.is)
		}
	}
}

func TestUnary(t *testing.T) {
	for i, x := range allTypes() {
		up := []api.Type{i16t, i16t, i16t, u16t, i32t, u32t, i64t, u64t}[i]
		for _, a := range numbers() {
			n := means(a, x)
			for _, c := range []struct {
				kind int
				want *big.Int
				is   api.Type
			}{
				{api.CNeg, new(big.Int).Neg(n), up}, {api.CNot, new(big.Int).Not(n), up}, {api.CLog, bigIf(n.Sign() == 0), i16t},
			} {
				got, is, err := Unary(c.kind, a, x)
				if want := modulo(c.want, c.is); got != want || is != c.is || err != api.OK {
					t.Errorf("Unary(%d, %d, %s): %d, %v, %d comes, not %d, %v", c.kind, a, Name(x), got, is, err, want, c.is)
				}
			}
		}
	}
}

func TestUnaryOfWhatIsNone(t *testing.T) {
	wrong := func(kind int, x api.Type) {
		if got, is, err := Unary(kind, 5, x); got != 0 || is != (api.Type{}) || err != api.ErrKind {
			t.Errorf("Unary(%d, 5, %v): %d, %v, %d comes, not 0, nothing, %d", kind, x, got, is, err, api.ErrKind)
		}
	}
	for _, x := range allTypes() {
		for kind := -30; kind <= 40; kind++ {
			if kind != api.CNeg && kind != api.CNot && kind != api.CLog {
				wrong(kind, x)
			}
		}
		for _, kind := range []int{-1 << 63, 256 + api.CNeg, 1<<32 + api.CNot, 1<<63 - 1} {
			wrong(kind, x)
		}
	}
	for _, none := range noTypes() {
		for kind := -1; kind <= 30; kind++ {
			wrong(kind, none)
		}
	}
}

// TestNoPanicOfWhatIsNoType hands what is no type to the calls that say nothing of it: nothing is promised of what comes, but that something does (Z1).
func TestNoPanicOfWhatIsNoType(t *testing.T) {
	l := append(noTypes(), allTypes()...)
	for _, a := range l {
		Promote(a)
		Words(a)
		for _, b := range l {
			Common(a, b)
			for _, x := range []uint64{0, 1, 200, 1 << 63, 1<<64 - 1} {
				Convert(x, a, b)
			}
			for kind := -1; kind <= 30; kind++ {
				Result(kind, a, b)
			}
		}
	}
}
