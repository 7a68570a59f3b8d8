package fold

import (
	"math/rand"
	"reflect"
	"testing"

	"pairlegal/api"
	"pairlegal/check"
	"pairlegal/source"
)

// J1

// TestWrittenByHand: numbers of each type at and next to its bounds, and those at which Literal tells the next type.
func TestWrittenByHand(t *testing.T) {
	for _, c := range []struct {
		is   api.Type
		n    uint64
		want string
	}{
		{i8t, 0, "(i8)0u"}, {i8t, 1, "(i8)1u"}, {i8t, 126, "(i8)126u"}, {i8t, 127, "(i8)127u"}, {i8t, 128, "(i8)128u"}, {i8t, 129, "(i8)129u"}, {i8t, 254, "(i8)254u"}, {i8t, 255, "(i8)255u"},
		{u8t, 0, "(u8)0u"}, {u8t, 1, "(u8)1u"}, {u8t, 127, "(u8)127u"}, {u8t, 128, "(u8)128u"}, {u8t, 254, "(u8)254u"}, {u8t, 255, "(u8)255u"},
		{i16t, 0, "0"}, {i16t, 1, "1"}, {i16t, 255, "255"}, {i16t, 256, "256"}, {i16t, 32766, "32766"}, {i16t, 32767, "32767"}, {i16t, 32768, "(i16)32768u"}, {i16t, 32769, "(i16)32769u"}, {i16t, 65531, "(i16)65531u"}, {i16t, 65534, "(i16)65534u"}, {i16t, 65535, "(i16)65535u"},
		{u16t, 0, "0u"}, {u16t, 1, "1u"}, {u16t, 32767, "32767u"}, {u16t, 32768, "32768u"}, {u16t, 65534, "65534u"}, {u16t, 65535, "65535u"},
		{i32t, 0, "(i32)0u"}, {i32t, 1, "(i32)1u"}, {i32t, 32767, "(i32)32767u"}, {i32t, 32768, "32768"}, {i32t, 32769, "32769"}, {i32t, 65535, "65535"}, {i32t, 65536, "65536"},
		{i32t, 1<<31 - 2, "2147483646"}, {i32t, 1<<31 - 1, "2147483647"}, {i32t, 1 << 31, "(i32)2147483648u"}, {i32t, 1<<31 + 1, "(i32)2147483649u"}, {i32t, 1<<32 - 2, "(i32)4294967294u"}, {i32t, 1<<32 - 1, "(i32)4294967295u"},
		{u32t, 0, "(u32)0u"}, {u32t, 1, "(u32)1u"}, {u32t, 65535, "(u32)65535u"}, {u32t, 65536, "65536u"}, {u32t, 1<<31 - 1, "2147483647u"}, {u32t, 1 << 31, "2147483648u"}, {u32t, 1<<32 - 2, "4294967294u"}, {u32t, 1<<32 - 1, "4294967295u"},
		{i64t, 0, "(i64)0u"}, {i64t, 1, "(i64)1u"}, {i64t, 32768, "(i64)32768u"}, {i64t, 65536, "(i64)65536u"}, {i64t, 1<<31 - 1, "(i64)2147483647u"}, {i64t, 1 << 31, "2147483648"}, {i64t, 1<<32 - 1, "4294967295"}, {i64t, 1 << 32, "4294967296"},
		{i64t, 1<<63 - 2, "9223372036854775806"}, {i64t, 1<<63 - 1, "9223372036854775807"}, {i64t, 1 << 63, "(i64)9223372036854775808u"}, {i64t, 1<<63 + 1, "(i64)9223372036854775809u"}, {i64t, 1<<64 - 2, "(i64)18446744073709551614u"}, {i64t, 1<<64 - 1, "(i64)18446744073709551615u"},
		{u64t, 0, "(u64)0u"}, {u64t, 1, "(u64)1u"}, {u64t, 65536, "(u64)65536u"}, {u64t, 1<<32 - 1, "(u64)4294967295u"}, {u64t, 1 << 32, "4294967296u"}, {u64t, 1<<63 - 1, "9223372036854775807u"}, {u64t, 1 << 63, "9223372036854775808u"}, {u64t, 1<<64 - 2, "18446744073709551614u"}, {u64t, 1<<64 - 1, "18446744073709551615u"},
	} {
		x, _ := literal(c.n, false)
		want := readExpr(t, c.want)
		becomes(t, cast(c.is, x), want)
		if got := written(c.n, c.is); !reflect.DeepEqual(got, want) {
			t.Errorf("%d of %v: %+v comes, not %+v", c.n, c.is, got, want)
		}
	}
}

// TestKnownByHand: just a CNum, and a CCast of one; seen by whether what stands around is worked out.
func TestKnownByHand(t *testing.T) {
	for _, c := range []struct {
		x    api.Expr
		want bool
	}{
		{num(5), true}, {cast(u8t, num(5)), true}, {cast(i64t, num(5)), true}, {name("a"), false}, {cast(u8t, name("a")), false}, {cast(u8t, cast(i8t, name("a"))), false},
		{at("a", num(1)), false}, {cast(u8t, at("a", num(1))), false}, {call("get"), false}, {call("f", num(1)), false}, {cast(u8t, call("get")), false},
		{one(api.CNeg, name("a")), false}, {two(api.CAdd, num(1), name("a")), false}, {two(api.CDiv, num(1), num(0)), false}, {cast(u8t, two(api.CDiv, num(1), num(0))), false},
	} {
		if got := known(c.x); got != c.want {
			t.Errorf("%s: %v comes", told(c.x), got)
		}
		if got := Expr(one(api.CLog, c.x)).Kind == api.CNum; got != c.want {
			t.Errorf("! of %s: %v comes", told(c.x), got)
		}
	}
	for _, x := range []api.Expr{one(api.CNeg, num(5)), two(api.CAdd, num(1), num(2)), cast(u8t, cast(i8t, num(5))), cast(u8t, one(api.CNot, num(5)))} {
		if known(x) {
			t.Errorf("%s is known", told(x))
		}
	}
}

// J2

func TestExprByHand(t *testing.T) {
	for _, c := range [][2]string{
		{"5", "5"}, {"40000", "40000"}, {"5u", "5u"}, {"a", "a"}, {"get()", "get()"}, {"f()", "f()"},
		{"2 - 7", "(i16)65531u"}, {"-5", "(i16)65531u"}, {"1 + 2 * 3", "7"}, {"(u8)300", "(u8)44u"}, {"(i8)300", "(i8)44u"}, {"(i8)200", "(i8)200u"}, {"(i64)-1", "(i64)18446744073709551615u"}, {"(u64)-1", "18446744073709551615u"}, {"(u16)5", "5u"}, {"(i16)5u", "5"},
		{"3 * (4 + (u8)7)", "33"}, {"a[2 + 2] + 1 * 1", "a[4] + 1"}, {"~0u >> 1 == 32767u", "1"}, {"-32768", "(i32)4294934528u"}, {"-(i16)32768", "(i16)32768u"}, {"-9223372036854775807 - 1", "(i64)9223372036854775808u"},
		{"-0", "0"}, {"~0", "(i16)65535u"}, {"~65535u", "0u"}, {"!0", "1"}, {"!7", "0"}, {"!(u8)256", "1"}, {"!(u64)7", "0"}, {"-(u8)1", "(i16)65535u"}, {"-(u32)1", "4294967295u"}, {"~(i64)0", "(i64)18446744073709551615u"},
		{"200 * 200", "(i16)40000u"}, {"(u8)200 * (u8)200", "(i16)40000u"}, {"200u * 200u", "40000u"}, {"200 * (i32)200", "40000"}, {"-7 / 2", "(i16)65533u"}, {"-7 % 2", "(i16)65535u"}, {"7u / 2u", "3u"}, {"7 % 2", "1"},
		{"1 << 15", "(i16)32768u"}, {"1 << 16", "0"}, {"1u << 15", "32768u"}, {"(i64)1 << 40", "1099511627776"}, {"(i32)1 << 20", "1048576"}, {"(i8)128 >> 3", "(i16)65520u"}, {"1 >> 1", "0"}, {"1 << 65536", "1"},
		{"1 < 2", "1"}, {"-1 < 1u", "0"}, {"2 <= 1", "0"}, {"2 > 1", "1"}, {"1 >= 2", "0"}, {"(u8)255 == (i8)255", "0"}, {"(u8)255 != (i8)255", "1"},
		{"12 & 10", "8"}, {"12 ^ 10", "6"}, {"12 | 10", "14"}, {"1 && 2", "1"}, {"1 && 0", "0"}, {"0 || 0", "0"}, {"0 || (u64)9", "1"}, {"(u8)256 || 0", "0"}, {"(i64)5 && (u8)1", "1"},

		{"1 / 0", "1 / 0"}, {"1 % 0", "1 % 0"}, {"1 / (2 - 2)", "1 / 0"}, {"(1 + 2) % (u8)256", "3 % (u8)0u"}, {"-(1 / 0)", "-(1 / 0)"}, {"(u8)(1 / 0)", "(u8)(1 / 0)"}, {"0 && 1 / 0", "0 && 1 / 0"}, {"1 || 1 / 0", "1 || 1 / 0"}, {"1 / 0 || 1", "1 / 0 || 1"}, {"0 * (1 % 0)", "0 * (1 % 0)"}, {"1 / 0 + (2 + 3)", "1 / 0 + 5"},
		{"0 && a", "0 && a"}, {"1 || a", "1 || a"}, {"a * 0", "a * 0"}, {"a - a", "a - a"}, {"a + 1 + 2", "a + 1 + 2"}, {"a + (1 + 2)", "a + 3"}, {"1 + 2 + a", "3 + a"}, {"-(a + 1 * 2)", "-(a + 2)"}, {"!a", "!a"}, {"~-a", "~-a"}, {"(u8)a", "(u8)a"}, {"(u8)(i16)a", "(u8)(i16)a"}, {"(i16)(u8)300 + a", "44 + a"},
		{"a[1]", "a[1]"}, {"a[(u8)1]", "a[(u8)1u]"}, {"a[-1]", "a[(i16)65535u]"}, {"-a[1 + 1]", "-a[2]"}, {"a[a[1 + 2]]", "a[a[3]]"}, {"a[1 / 0]", "a[1 / 0]"},
		{"f(1)", "f(1)"}, {"f(1 + 2, a, 3 * 3)", "f(3, a, 9)"}, {"f(f(2 - 1)) + (2 - 1)", "f(f(1)) + 1"}, {"!f(0)", "!f(0)"}, {"get() + -1", "get() + (i16)65535u"}, {"f((i16)7u, (u8)7)", "f(7, (u8)7u)"},
		{"-(-(-(-(5))))", "5"}, {"!!!0", "1"}, {"(u8)(i64)(i8)(u32)-2", "(u8)254u"}, {"((1 + 2) * (3 + 4) - (5 << 1)) / (a + (6 - 7))", "11 / (a + (i16)65535u)"},
	} {
		x := readExpr(t, c[0])
		if got := told(Expr(x)); got != c[1] {
			t.Errorf("Expr of %s: %s comes, not %s", c[0], got, c[1])
		}
		becomes(t, x, readExpr(t, c[1]))
		becomes(t, x, modelExpr(x))
	}
}

// kids are expressions that are known, that become so, that are known in part, and that are not.
func kids() []api.Expr {
	return []api.Expr{
		num(5), num(0), {Kind: api.CNum, N: 1 << 40, Type: u64t}, cast(u8t, num(7)), cast(i8t, num(200)),
		two(api.CSub, num(2), num(7)), one(api.CNeg, num(32767)), cast(i64t, one(api.CNot, num(0))), two(api.CSub, num(7), num(7)),
		two(api.CAdd, name("a"), two(api.CMul, num(3), num(4))), cast(i32t, name("a")), one(api.CLog, at("b", two(api.CAdd, num(1), num(1)))), two(api.CDiv, two(api.CAdd, num(1), num(1)), num(0)),
		name("a"), at("b", num(1)), call("get"), call("f", num(1), one(api.CNeg, num(1))),
	}
}

// TestEachKind: with each pair of such kids.
func TestEachKind(t *testing.T) {
	worked := 0
	try := func(x api.Expr) {
		want := modelExpr(x)
		becomes(t, x, want)
		if known(want) {
			worked++
		}
	}
	for _, a := range kids() {
		try(a)
		try(at("b", a))
		try(call("f", a))
		for _, is := range allTypes {
			try(cast(is, a))
		}
		for kind := api.CNeg; kind <= api.CLog; kind++ {
			try(one(kind, a))
		}
		for _, b := range kids() {
			try(call("f", a, b))
			for kind := api.CMul; kind <= api.CLor; kind++ {
				try(two(kind, a, b))
			}
		}
	}
	// Nine kids are known or become so; of their pairs CDiv and CRem leave those alone that divide by one of two noughts.
	if want := 9 + 9*8 + 9*3 + 18*81 - 2*18; worked != want {
		t.Errorf("%d are worked out, not %d", worked, want)
	}
}

// TestManyArguments: each one of a call is worked out, and the call is not.
func TestManyArguments(t *testing.T) {
	x, want := call("f"), call("f")
	for i := range uint64(api.MaxParams) {
		becomes(t, x, want)
		x.Kids = append(x.Kids, two(api.CAdd, num(i), num(10)))
		want.Kids = append(want.Kids, num(i+10))
	}
	becomes(t, x, want)
}

// TestCastOfEachPair: each number of each type that a number has, and one that is cast already, as each type.
func TestCastOfEachPair(t *testing.T) {
	for _, n := range edges() {
		for _, signed := range []bool{true, false} {
			x, ok := literal(n, signed)
			if !ok {
				continue
			}
			becomes(t, x, x)
			for _, to := range allTypes {
				becomes(t, cast(to, x), modelExpr(cast(to, x)))
				for _, by := range allTypes {
					twice := cast(to, cast(by, x))
					becomes(t, twice, modelExpr(twice))
				}
			}
		}
	}
}

// TestOperatorsAtEdges: each operator of numbers of each pair of types, at and next to their bounds.
func TestOperatorsAtEdges(t *testing.T) {
	r := rand.New(rand.NewSource(1))
	l := edges()
	for _, a := range allTypes {
		for _, b := range allTypes {
			for kind := api.CMul; kind <= api.CLor; kind++ {
				for range 12 {
					x, _ := literal(l[r.Intn(len(l))], false)
					y, _ := literal(l[r.Intn(len(l))], false)
					z := two(kind, cast(a, x), cast(b, y))
					becomes(t, z, modelExpr(z))
				}
			}
		}
	}
}

// TestConstTellsTheSame: what is worked out is the number that it was, of its type.
func TestConstTellsTheSame(t *testing.T) {
	m := &maker{Rand: rand.New(rand.NewSource(2)), locals: []string{"a"}}
	for range 20000 {
		x := m.expr(5, 0)
		n, is, err := check.Const(x)
		y := Expr(x)
		again, still, now := check.Const(y)
		if n != again || is != still || err != now {
			t.Fatalf("%s: %d of %v, %d comes, not %d of %v, %d", told(x), again, still, now, n, is, err)
		}
		if known(y) != (err == api.OK) {
			t.Fatalf("%s, of which Const says %d, becomes %s", told(x), err, told(y))
		}
	}
}

func TestExprAgainstModel(t *testing.T) {
	m := &maker{Rand: rand.New(rand.NewSource(3)), locals: []string{"a", "b", "c"}}
	for range 30000 {
		x := m.expr(m.Intn(7), []int{0, 3, 6, 20}[m.Intn(4)])
		y := Expr(x)
		if want := modelExpr(x); !same(y, want) {
			t.Fatalf("Expr of %s: %s comes, not %s", told(x), told(y), told(want))
		}
		if source.WrongExpr(y) != api.OK || !same(Expr(y), y) {
			t.Fatalf("%s becomes %s, and then %s", told(x), told(y), told(Expr(y)))
		}
	}
}

// TestFieldsThatAKindHasNot: they stay, or are nothing.
func TestFieldsThatAKindHasNot(t *testing.T) {
	full := func(x api.Expr) api.Expr {
		extra := api.Expr{Kind: x.Kind, N: 77, Type: i64t, Name: "extra", Kids: x.Kids}
		switch x.Kind {
		case api.CNum:
			extra.N, extra.Type = x.N, x.Type
		case api.CVar, api.CAt, api.CCall:
			extra.Name = x.Name
		case api.CCast:
			extra.Type = x.Type
		}
		return extra
	}
	for _, x := range kids() {
		for i := range x.Kids {
			x.Kids[i] = full(x.Kids[i])
		}
		x = full(x)
		got := Expr(x)
		if want := modelExpr(x); !same(got, want) {
			t.Errorf("Expr of %+v: %+v comes, not %+v", x, got, want)
		}
		stays(t, got, x)
		for _, kind := range []int{api.CNeg, api.CLog} {
			y := full(one(kind, x))
			becomes(t, y, modelExpr(y))
			stays(t, Expr(y), y)
		}
	}
}

// stays holds what a kind has not, of an expression that is answered, against what was handed in.
func stays(t *testing.T, got, x api.Expr) {
	t.Helper()
	b := bare(got)
	if got.N != b.N && got.N != x.N || got.Type != b.Type && got.Type != x.Type || got.Name != b.Name && got.Name != x.Name {
		t.Errorf("Expr of %+v: %+v comes", x, got)
	}
}

// endless is an expression that is its own kid.
func endless(kind, kids int) api.Expr {
	l := make([]api.Expr, kids)
	for i := range l {
		l[i] = api.Expr{Kind: kind, Name: "a", Type: i16t, Kids: l}
	}
	return l[0]
}

// TestExprOfWhatIsWrong: nothing is said of what comes, but it comes; here it is what was handed in.
func TestExprOfWhatIsWrong(t *testing.T) {
	long := num(1)
	for range api.MaxShape {
		long = one(api.CNeg, long)
	}
	wrong := []api.Expr{
		{}, {Kind: -1}, {Kind: api.CLor + 1}, {Kind: 1 << 62}, {Kind: api.CNum}, {Kind: api.CNum, N: 5, Type: i32t}, {Kind: api.CNum, N: 5, Type: u8t}, {Kind: api.CNum, N: 1 << 63, Type: i64t}, {Kind: api.CNum, N: 5, Type: i16t, Kids: []api.Expr{num(1)}},
		name(""), name("5a"), name("if"), {Kind: api.CVar, Name: "a", Kids: []api.Expr{num(1)}}, at("", num(1)), {Kind: api.CAt, Name: "a"}, call(""), call("f", make([]api.Expr, 1)...), call("f", num(1), num(1), num(1), num(1), num(1), num(1), num(1), num(1), num(1)),
		cast(api.Type{}, num(1)), cast(api.Type{Bits: 24}, num(1)), {Kind: api.CCast, Type: i16t}, {Kind: api.CNeg}, {Kind: api.CLog, Kids: []api.Expr{num(1), num(2)}}, {Kind: api.CNeg, Kids: []api.Expr{{}}},
		{Kind: api.CAdd}, {Kind: api.CAdd, Kids: []api.Expr{num(1)}}, {Kind: api.CAdd, Kids: []api.Expr{num(1), num(2), num(3)}}, two(api.CAdd, num(1), api.Expr{}), two(api.CDiv, cast(i16t, api.Expr{}), num(1)), {Kind: api.CLand, Kids: []api.Expr{num(1)}},
		long,
	}
	for _, x := range wrong {
		if source.WrongExpr(x) == api.OK {
			t.Errorf("nothing is wrong with %+v", x)
		}
		if got := Expr(x); !reflect.DeepEqual(got, x) {
			t.Errorf("Expr of %+v: %+v comes", x, got)
		}
	}
	for kind := -1; kind <= api.CLor+1; kind++ {
		for kids := range 4 {
			if kids > 0 {
				Expr(endless(kind, kids))
			}
			Expr(api.Expr{Kind: kind, Kids: make([]api.Expr, kids)})
			Expr(two(api.CAdd, num(1), api.Expr{Kind: kind, Name: "a", Type: i16t, Kids: make([]api.Expr, kids)}))
		}
	}
	wide := num(1)
	for range 90 {
		wide = two(api.CAdd, wide, wide)
	}
	Expr(wide)
}

// TestTheGreatestExpressions: as deep, and with as many nodes, as there may be.
func TestTheGreatestExpressions(t *testing.T) {
	long, open := num(1), name("a")
	for range api.MaxShape - 1 {
		long, open = one(api.CNeg, long), one(api.CNeg, open)
	}
	becomes(t, long, written(65535, i16t))
	becomes(t, open, open)
	// sum has twice as many nodes as numbers, less one: all of them, the call and the last kid are as many as there may be.
	sum := func(levels int) api.Expr {
		x := num(1)
		for range levels {
			x = two(api.CAdd, x, x)
		}
		return x
	}
	last := one(api.CNeg, one(api.CNeg, one(api.CNeg, num(1))))
	becomes(t, call("f", sum(13), sum(10), sum(9), sum(8), sum(4), last), call("f", num(8192), num(1024), num(512), num(256), num(16), written(65535, i16t)))
	more := call("f", sum(13), sum(10), sum(9), sum(8), sum(4), one(api.CNeg, last))
	if source.WrongExpr(more) != api.ErrMuch {
		t.Errorf("there may be one more node")
	}
	becomes(t, more, more)
}
