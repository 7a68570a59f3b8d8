package check

import (
	"fmt"
	"math/big"
	"math/rand"
	"slices"
	"testing"

	"pairlegal/api"
)

// I5

// isConst holds what Const tells of an expression against a number and its type.
func isConst(t *testing.T, text string, n uint64, is string) {
	t.Helper()
	got, typ, err := Const(readExpr(t, text))
	if got != n || nameOfType(typ) != is || err != api.OK {
		t.Errorf("Const(%s): %d of %s, %d comes, not %d of %s", text, got, nameOfType(typ), err, n, is)
	}
}

func isNoConst(t *testing.T, text string, want api.Errno) {
	t.Helper()
	n, typ, err := Const(readExpr(t, text))
	if err != want {
		t.Errorf("Const(%s): %d of %s, %d comes, not %d", text, n, nameOfType(typ), err, want)
	}
	if err != api.OK && (n != 0 || typ != api.Type{}) {
		t.Errorf("Const(%s): %d of %s comes beside an error", text, n, nameOfType(typ))
	}
}

func TestConstByHand(t *testing.T) {
	for _, c := range []struct {
		text string
		n    uint64
		is   string
	}{
		{"0", 0, "i16"}, {"1", 1, "i16"}, {"32768", 32768, "i32"}, {"5u", 5, "u16"}, {"65536u", 65536, "u32"}, {"18446744073709551615u", 1<<64 - 1, "u64"}, {"9223372036854775807", 1<<63 - 1, "i64"},
		{"(u8)300", 44, "u8"}, {"(i8)200", 200, "i8"}, {"(i16)(i8)200", 65480, "i16"}, {"(u16)(u8)200", 200, "u16"}, {"(i64)(i8)255", 1<<64 - 1, "i64"}, {"(u64)-1", 1<<64 - 1, "u64"}, {"(u32)65535u", 65535, "u32"}, {"(u8)(i64)-1", 255, "u8"},
		{"-5", 65531, "i16"}, {"-0", 0, "i16"}, {"-1u", 65535, "u16"}, {"-(u8)1", 65535, "i16"}, {"-(i8)128", 128, "i16"}, {"-32768", 1<<32 - 32768, "i32"}, {"-(i16)32768", 32768, "i16"}, {"-4294967296u", 1<<64 - 1<<32, "u64"},
		{"~0", 65535, "i16"}, {"~0u", 65535, "u16"}, {"~(u8)0", 65535, "i16"}, {"~(i8)255", 0, "i16"}, {"~70000", 1<<32 - 70001, "i32"},
		{"!0", 1, "i16"}, {"!1", 0, "i16"}, {"!5", 0, "i16"}, {"!0u", 1, "i16"}, {"!99999999999", 0, "i16"}, {"!(u8)256", 1, "i16"}, {"!!7", 1, "i16"},
		{"1 + 2u", 3, "u16"}, {"32767 + 1", 32768, "i16"}, {"(u8)255 + (u8)1", 256, "i16"}, {"65535u + 1", 0, "u16"}, {"1 - 2", 65535, "i16"}, {"1 - 65536u", 1<<32 - 65535, "u32"}, {"300 * 300", 24464, "i16"}, {"300 * 70000", 21000000, "i32"},
		{"-7 / 2", 65533, "i16"}, {"-7 % 2", 65535, "i16"}, {"7 / -2", 65533, "i16"}, {"7 % -2", 1, "i16"}, {"65529u / 2", 32764, "u16"}, {"-7 / 2u", 32764, "u16"}, {"(i16)32768 / -1", 32768, "i16"}, {"(i16)32768 % -1", 0, "i16"},
		{"1 << 15", 32768, "i16"}, {"1 << 16", 0, "i16"}, {"(i64)1 << 40", 1 << 40, "i64"}, {"(u8)255 << 4", 4080, "i16"}, {"-8 >> 1", 65532, "i16"}, {"65528u >> 1", 32764, "u16"}, {"-1 >> 99", 65535, "i16"}, {"1 << 65536", 1, "i16"}, {"1u << -1", 0, "u16"}, {"(i8)128 >> 3", 65520, "i16"},
		{"1 < 2", 1, "i16"}, {"2 < 1", 0, "i16"}, {"-1 < 0u", 0, "i16"}, {"-1 < 0", 1, "i16"}, {"2 <= 2", 1, "i16"}, {"3 <= 2", 0, "i16"}, {"3 > 2", 1, "i16"}, {"2 > 2", 0, "i16"}, {"2 >= 2", 1, "i16"}, {"1 >= 2", 0, "i16"}, {"5 == 5u", 1, "i16"}, {"-1 == 65535u", 1, "i16"}, {"-1 == 65536", 0, "i16"}, {"5 != 5", 0, "i16"}, {"99999999999 != 1", 1, "i16"},
		{"12 & 10", 8, "i16"}, {"12 ^ 10", 6, "i16"}, {"12 | 10", 14, "i16"}, {"-1 & 70000u", 70000, "u32"}, {"-1 | 70000u", 1<<32 - 1, "u32"}, {"(u8)1 | (u8)2", 3, "i16"},
		{"0 && 0", 0, "i16"}, {"0 && 1", 0, "i16"}, {"1 && 0", 0, "i16"}, {"1 && 1", 1, "i16"}, {"5u && 99999999999", 1, "i16"}, {"99999999999 && (u8)256", 0, "i16"},
		{"0 || 0", 0, "i16"}, {"0 || 1", 1, "i16"}, {"1 || 0", 1, "i16"}, {"1 || 1", 1, "i16"}, {"0u || 4294967296", 1, "i16"}, {"(u8)256 || (i8)512", 0, "i16"},
		{"1 < 2 && 3 == 4", 0, "i16"}, {"1 && 0 || 2", 1, "i16"}, {"1 + 2 * 3 - 8 / 4 % 3", 5, "i16"}, {"-9223372036854775807 - 1", 1 << 63, "i64"},
	} {
		isConst(t, c.text, c.n, c.is)
		isNoConst(t, c.text, api.OK)
	}
}

func TestConstsErrors(t *testing.T) {
	for text, want := range map[string]api.Errno{
		"x": api.ErrFit, "a[1]": api.ErrFit, "f()": api.ErrFit, "f(1)": api.ErrFit, "put(1)": api.ErrFit, "get()": api.ErrFit, "x + 1": api.ErrFit, "1 + x": api.ErrFit, "-x": api.ErrFit, "~x": api.ErrFit, "!x": api.ErrFit, "(u8)x": api.ErrFit, "(u8)-~!x": api.ErrFit,
		"1 / 0": api.ErrZero, "1 % 0": api.ErrZero, "1 / 0u": api.ErrZero, "1u % (u8)256": api.ErrZero, "0 / 0": api.ErrZero, "1 / (1 - 1)": api.ErrZero, "1 / !1": api.ErrZero, "99999999999 % (i64)0": api.ErrZero, "-(1 / 0)": api.ErrZero, "(u8)(1 / 0)": api.ErrZero,
		// Neither a place nor an argument is looked at.
		"a[1 / 0]": api.ErrFit, "f(1 / 0)": api.ErrFit, "f(1, 1 % 0)": api.ErrFit,
		// The first one of two is told.
		"x / 0": api.ErrFit, "1 / 0 + x": api.ErrZero, "x + 1 / 0": api.ErrFit, "x % (1 / 0)": api.ErrFit, "1 / 0 / x": api.ErrZero, "(1 / 0) / 0": api.ErrZero, "1 / (0 * x)": api.ErrFit, "f() - 1 / 0": api.ErrFit, "1 % 0 - f()": api.ErrZero, "1 / 0 < a[0]": api.ErrZero, "a[0] < 1 / 0": api.ErrFit, "1 / 0 << x": api.ErrZero,
		// Of `&&` and `||` both are looked at, whatever the first one is.
		"0 && x": api.ErrFit, "1 && x": api.ErrFit, "x && 0": api.ErrFit, "0 || x": api.ErrFit, "1 || x": api.ErrFit, "x || 1": api.ErrFit, "0 && 1 / 0": api.ErrZero, "1 || 1 / 0": api.ErrZero, "1 % 0 || 1": api.ErrZero, "1 / 0 && 0": api.ErrZero, "1 / 0 && x": api.ErrZero, "x && 1 / 0": api.ErrFit, "1 / 0 || x": api.ErrZero, "x || 1 / 0": api.ErrFit,
		"0 / 1": api.OK, "0 % 1": api.OK, "0 / -1": api.OK, "1 / 256": api.OK,
	} {
		isNoConst(t, text, want)
	}
	for sign := range twoSigns {
		isNoConst(t, "x "+sign+" 1 / 0", api.ErrFit)
		isNoConst(t, "(1 / 0) "+sign+" x", api.ErrZero)
		isNoConst(t, "1 "+sign+" (x)", api.ErrFit)
		isNoConst(t, "x "+sign+" 1", api.ErrFit)
		isNoConst(t, "1 "+sign+" (1 % 0)", api.ErrZero)
	}
}

// known is a number as it is meant, with its type's name: what Const must tell, worked out with numbers that have no width.
type known struct {
	n  *big.Int
	is string
}

func bitsOf(is string) uint { return uint(typeOfName(is).Bits) }

// fits is n modulo the type's width, as that type means it.
func fits(n *big.Int, is string) *big.Int {
	all := new(big.Int).Lsh(big.NewInt(1), bitsOf(is))
	out := new(big.Int).Mod(n, all)
	if is[0] == 'i' && out.Cmp(new(big.Int).Rsh(all, 1)) >= 0 {
		out.Sub(out, all)
	}
	return out
}

func commonName(a, b string) string {
	return common[slices.Index(typeNames, a)*8+slices.Index(typeNames, b)]
}

func promotedName(a string) string { return promoted[slices.Index(typeNames, a)] }

func yes(b bool) known {
	if b {
		return known{big.NewInt(1), "i16"}
	}
	return known{new(big.Int), "i16"}
}

// model works out an expression of numbers.
func model(x api.Expr) (known, api.Errno) {
	switch x.Kind {
	case api.CNum:
		return known{new(big.Int).SetUint64(x.N), nameOfType(x.Type)}, api.OK
	case api.CVar, api.CAt, api.CCall:
		return known{}, api.ErrFit
	}
	var kids []known
	for _, kid := range x.Kids {
		k, err := model(kid)
		if err != api.OK {
			return known{}, err
		}
		kids = append(kids, k)
	}
	a := kids[0]
	up := promotedName(a.is)
	switch x.Kind {
	case api.CCast:
		return known{fits(a.n, nameOfType(x.Type)), nameOfType(x.Type)}, api.OK
	case api.CNeg:
		return known{fits(new(big.Int).Neg(a.n), up), up}, api.OK
	case api.CNot:
		return known{fits(new(big.Int).Not(a.n), up), up}, api.OK
	case api.CLog:
		return yes(a.n.Sign() == 0), api.OK
	case api.CLand:
		return yes(a.n.Sign() != 0 && kids[1].n.Sign() != 0), api.OK
	case api.CLor:
		return yes(a.n.Sign() != 0 || kids[1].n.Sign() != 0), api.OK
	case api.CShl:
		return known{fits(new(big.Int).Lsh(a.n, uint(fits(kids[1].n, "u16").Uint64())), up), up}, api.OK
	case api.CShr:
		return known{new(big.Int).Rsh(a.n, uint(fits(kids[1].n, "u16").Uint64())), up}, api.OK
	}
	return modelTogether(x.Kind, a, kids[1])
}

func modelTogether(kind int, a, b known) (known, api.Errno) {
	is := commonName(a.is, b.is)
	m, n, out := fits(a.n, is), fits(b.n, is), new(big.Int)
	switch kind {
	case api.CMul:
		out.Mul(m, n)
	case api.CDiv, api.CRem:
		if n.Sign() == 0 {
			return known{}, api.ErrZero
		}
		if out.Quo(m, n); kind == api.CRem {
			out.Rem(m, n)
		}
	case api.CAdd:
		out.Add(m, n)
	case api.CSub:
		out.Sub(m, n)
	case api.CAnd:
		out.And(m, n)
	case api.CXor:
		out.Xor(m, n)
	case api.COr:
		out.Or(m, n)
	default:
		c := m.Cmp(n)
		return yes(map[int]bool{api.CLt: c < 0, api.CLe: c <= 0, api.CGt: c > 0, api.CGe: c >= 0, api.CEq: c == 0, api.CNe: c != 0}[kind]), api.OK
	}
	return known{fits(out, is), is}, api.OK
}

// holdsModel holds Const against the model.
func holdsModel(t *testing.T, x api.Expr) api.Errno {
	t.Helper()
	n, typ, err := Const(x)
	want, wantErr := model(x)
	if err != wantErr {
		t.Errorf("Const(%+v): %d comes, not %d", x, err, wantErr)
	}
	if err != api.OK || wantErr != api.OK {
		return err
	}
	bits := new(big.Int).Mod(want.n, new(big.Int).Lsh(big.NewInt(1), bitsOf(want.is)))
	if nameOfType(typ) != want.is || n != bits.Uint64() {
		t.Errorf("Const(%+v): %d of %s comes, not %v of %s", x, n, nameOfType(typ), bits, want.is)
	}
	return err
}

// someNumbers are numbers next to the edges of all types, with signs ahead.
var someNumbers = []string{"0", "1", "-1", "2", "7", "-8", "127", "128", "255", "256", "32767", "32768", "65535u", "65536u", "2147483647", "2147483648", "4294967295u", "4294967296u", "9223372036854775807", "9223372036854775808u", "18446744073709551615u"}

func TestConstOfEachKindAndType(t *testing.T) {
	var kids []api.Expr
	for _, is := range typeNames {
		for _, n := range someNumbers {
			kids = append(kids, cast(typeOfName(is), readExpr(t, n)))
		}
	}
	for _, a := range kids {
		for _, kind := range []int{api.CNeg, api.CNot, api.CLog} {
			holdsModel(t, one(kind, a))
		}
		for _, is := range typeNames {
			holdsModel(t, cast(typeOfName(is), a))
		}
		for _, b := range kids {
			for kind := api.CMul; kind <= api.CLor; kind++ {
				holdsModel(t, two(kind, a, b))
			}
		}
	}
}

// anyConst makes an expression of numbers at random; sometimes there is a name in it.
func anyConst(r *rand.Rand, deep int) api.Expr {
	switch k := r.Intn(12); {
	case deep == 0 || k < 2:
		n := r.Uint64() >> r.Intn(64)
		for n > 1<<63-1 {
			n >>= 1
		}
		x := api.Expr{Kind: api.CNum, N: n, Type: api.Type{Bits: 64, Signed: true}}
		for _, bits := range []int{32, 16} {
			if n < 1<<(bits-1) {
				x.Type.Bits = bits
			}
		}
		return x
	case k == 2 && r.Intn(20) == 0:
		return []api.Expr{name("x"), at("a", anyConst(r, deep-1)), call("f", anyConst(r, deep-1))}[r.Intn(3)]
	case k < 5:
		return cast(typeOfName(typeNames[r.Intn(8)]), anyConst(r, deep-1))
	case k < 7:
		return one(api.CNeg+r.Intn(3), anyConst(r, deep-1))
	}
	return two(api.CMul+r.Intn(18), anyConst(r, deep-1), anyConst(r, deep-1))
}

func TestConstAtRandom(t *testing.T) {
	r := rand.New(rand.NewSource(9))
	came := map[api.Errno]int{}
	for range 20000 {
		came[holdsModel(t, anyConst(r, 1+r.Intn(6)))]++
	}
	if len(came) != 3 || came[api.OK] < 10000 {
		t.Errorf("the expressions make only %v", came)
	}
}

// TestConstHasTheTypeOfI4: what Const tells is of the type that the expression has.
func TestConstHasTheTypeOfI4(t *testing.T) {
	r := rand.New(rand.NewSource(10))
	s := scopeOf(t)
	for range 5000 {
		x := anyConst(r, 5)
		_, is, err := Const(x)
		if err != api.OK {
			continue
		}
		if got, err := s.typeOf(x); got != is || err != api.OK {
			t.Errorf("%+v: %v, %d comes, not %v", x, got, err, is)
		}
	}
}

// TestConstOfWhatIsWrong: it ends, and tells some error.
func TestConstOfWhatIsWrong(t *testing.T) {
	long := num(1)
	for range api.MaxShape - 1 {
		long = one(api.CNeg, long)
	}
	if _, _, err := Const(long); err != api.OK {
		t.Errorf("%d comes of the deepest one", err)
	}
	for _, x := range []api.Expr{
		{}, {Kind: -1}, {Kind: 27}, {Kind: api.CNum}, {Kind: api.CNum, N: 1, Type: u8t}, {Kind: api.CNum, N: 1, Type: i16t, Kids: []api.Expr{num(1)}},
		{Kind: api.CVar}, {Kind: api.CAt, Name: "a"}, {Kind: api.CCall, Name: "if"}, {Kind: api.CCast, Type: u8t}, cast(api.Type{}, num(1)), cast(api.Type{Bits: 9}, num(1)),
		{Kind: api.CNeg}, two(api.CNeg, num(1), num(2)), {Kind: api.CAdd}, one(api.CAdd, num(1)), {Kind: api.CLor, Kids: []api.Expr{num(1), num(2), num(3)}}, one(api.CLand, num(1)),
		one(api.CNeg, api.Expr{}), two(api.CAdd, num(1), api.Expr{Kind: 99}), one(api.CNeg, long), endless(api.CNeg, 1), endless(api.CAdd, 2), endless(api.CCall, 8), endless(api.CLor, 2),
	} {
		n, is, err := Const(x)
		if err == api.OK || n != 0 || is != (api.Type{}) {
			t.Errorf("Const of kind %d: %d of %v, %d comes", x.Kind, n, is, err)
		}
	}
	// Halves that are the same memory, again and again: there is no end of working it out.
	wide := num(1)
	for range 90 {
		wide = two(api.CAdd, wide, wide)
	}
	if _, _, err := Const(wide); err != api.ErrMuch {
		t.Errorf("%d comes", err)
	}
}

// endless is an expression whose kids are itself.
func endless(kind, kids int) api.Expr {
	l := make([]api.Expr, kids)
	x := api.Expr{Kind: kind, Name: "x", Type: u8t, Kids: l}
	for i := range l {
		l[i] = x
	}
	return x
}

func TestConstOnlyReads(t *testing.T) {
	r := rand.New(rand.NewSource(11))
	for range 500 {
		x := anyConst(r, 5)
		ahead := fmt.Sprintf("%+v", x)
		n, is, err := Const(x)
		if ahead != fmt.Sprintf("%+v", x) {
			t.Errorf("%s was changed", ahead)
		}
		if m, as, again := Const(x); m != n || as != is || again != err {
			t.Errorf("%s: it is not the same again", ahead)
		}
	}
}
