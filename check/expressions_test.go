package check

import (
	"fmt"
	"strings"
	"testing"

	"pairlegal/api"
	"pairlegal/types"
)

// I4

// scopeOf is a scope with, of each type, a variable of all (v_i8), an array (a_i8), a local (l_i8) and a function without parameters (f_i8), and one of two (g_i8); f_void and g_void tell nothing.
func scopeOf(t *testing.T) *scope {
	t.Helper()
	n := newNames()
	is := func(err api.Errno) {
		t.Helper()
		if err != api.OK {
			t.Fatalf("%d comes", err)
		}
	}
	for _, k := range typeNames {
		is(n.addVariable(api.Global{Type: typeOfName(k), Name: "v_" + k}))
		is(n.addVariable(api.Global{Type: typeOfName(k), Name: "a_" + k, Size: 3}))
	}
	for _, k := range append(typeNames, "void") {
		is(n.addFunction(api.Func{Result: typeOfName(k), Name: "f_" + k}))
		is(n.addFunction(api.Func{Result: typeOfName(k), Name: "g_" + k, Params: []api.Param{{Type: i64t, Name: "a"}, {Type: u8t, Name: "b"}}}))
	}
	s := newScope(n, api.Type{})
	for _, k := range typeNames {
		is(s.declare(typeOfName(k), "l_"+k))
	}
	return s
}

// isOf holds the type of an expression against its name, or against an error.
func isOf(t *testing.T, s *scope, text, want string) {
	t.Helper()
	got, err := s.typeOf(readExpr(t, text))
	if err != api.OK {
		if got != (api.Type{}) {
			t.Errorf("%s: %v comes beside an error", text, got)
		}
		if fmt.Sprint("error ", int(err)) != want {
			t.Errorf("%s: error %d comes, not %s", text, err, want)
		}
		return
	}
	if nameOfType(got) != want {
		t.Errorf("%s: %s comes, not %s", text, nameOfType(got), want)
	}
}

func TestTypesOfPieces(t *testing.T) {
	s := scopeOf(t)
	for text, want := range map[string]string{
		"0": "i16", "32767": "i16", "32768": "i32", "2147483647": "i32", "2147483648": "i64", "9223372036854775807": "i64",
		"0u": "u16", "65535u": "u16", "65536u": "u32", "4294967295u": "u32", "4294967296u": "u64", "18446744073709551615u": "u64",
		"get()": "i16", "put(1)": "void", "f_void()": "void", "g_void(1, 2)": "void",
	} {
		isOf(t, s, text, want)
	}
	for _, k := range typeNames {
		for _, form := range []string{"v_", "l_"} {
			isOf(t, s, form+k, k)
		}
		isOf(t, s, "a_"+k+"[1]", k)
		isOf(t, s, "f_"+k+"()", k)
		isOf(t, s, "g_"+k+"(1, 2)", k)
		for _, kid := range typeNames {
			isOf(t, s, "("+kid+")v_"+k, kid)
			isOf(t, s, "a_"+k+"[v_"+kid+"]", k)
			isOf(t, s, "g_"+k+"(v_"+kid+", l_"+kid+")", k)
			isOf(t, s, "put(f_"+kid+"())", "void")
		}
	}
	// The innermost name is the one that counts.
	for _, k := range typeNames {
		inner := scopeOf(t)
		if err := inner.declare(typeOfName(k), "v_u32"); err != api.OK {
			t.Errorf("%d comes", err)
		}
		isOf(t, inner, "v_u32", k)
		inner.hide(len(typeNames))
		isOf(t, inner, "v_u32", "u32")
	}
}

func TestTypesOfOneKid(t *testing.T) {
	s := scopeOf(t)
	for i, k := range typeNames {
		for _, form := range []string{"v_" + k, "l_" + k, "a_" + k + "[0]", "f_" + k + "()", "(" + k + ")1", "(v_" + k + ")"} {
			isOf(t, s, "-"+form, promoted[i])
			isOf(t, s, "~"+form, promoted[i])
			isOf(t, s, "!"+form, "i16")
			isOf(t, s, "-~"+form, promoted[i])
			isOf(t, s, "-!"+form, "i16")
		}
	}
}

func TestTypesOfTwoKids(t *testing.T) {
	s := scopeOf(t)
	for sign, kind := range twoSigns {
		for i, a := range typeNames {
			for j, b := range typeNames {
				want := common[i*8+j]
				switch kind {
				case api.CShl, api.CShr:
					want = promoted[i]
				case api.CLt, api.CLe, api.CGt, api.CGe, api.CEq, api.CNe, api.CLand, api.CLor:
					want = "i16"
				}
				isOf(t, s, "v_"+a+" "+sign+" l_"+b, want)
				isOf(t, s, "f_"+a+"() "+sign+" a_"+b+"[v_"+a+"]", want)
				isOf(t, s, "("+b+")(v_"+a+" "+sign+" v_"+b+")", b)
				isOf(t, s, "("+a+")1 "+sign+" ("+b+")2", want)
			}
		}
	}
	for text, want := range map[string]string{
		"v_u8 + v_u8": "i16", "v_u16 + v_i16": "u16", "v_u16 * v_i32": "i32", "v_u32 + v_i32": "u32", "v_u32 + v_i64": "i64", "v_i8 << v_u64": "i16", "v_u64 >> v_i8": "u64",
		"v_i8 < v_u64": "i16", "v_u64 && v_u64": "i16", "(v_u64 < v_i8) + v_u32": "u32", "(v_u8 << 1) + v_u16": "u16", "-v_u8 + v_u16 * v_i32 - v_u32": "u32",
	} {
		isOf(t, s, text, want)
	}
}

// TestWhatTellsNothing: as a kid of each kind it is wrong, as the first one and as the second one.
func TestWhatTellsNothing(t *testing.T) {
	s := scopeOf(t)
	wrong := fmt.Sprint("error ", int(api.ErrType))
	for _, nothing := range []string{"f_void()", "g_void(1, 2)", "put(1)", "(f_void())"} {
		for _, form := range []string{"-@", "~@", "!@", "(u8)@", "(i64)@", "a_u8[@]", "put(@)", "g_u8(@, 1)", "g_u8(1, @)", "g_void(1, @)", "f_void() + @", "-(u8)@", "1 + a_u8[g_u8(1, -@)]"} {
			isOf(t, s, strings.Replace(form, "@", nothing, 1), wrong)
		}
		for sign := range twoSigns {
			isOf(t, s, nothing+" "+sign+" 1", wrong)
			isOf(t, s, "v_u8 "+sign+" "+nothing, wrong)
			isOf(t, s, nothing+" "+sign+" "+nothing, wrong)
		}
		isOf(t, s, nothing, "void")
	}
}

func TestNamesThatAreWrong(t *testing.T) {
	s := scopeOf(t)
	for text, err := range map[string]api.Errno{
		"x": api.ErrName, "x[1]": api.ErrName, "x()": api.ErrName, "V_u8": api.ErrName, "f_u8": api.ErrName, "f_u8[1]": api.ErrName, "put": api.ErrName, "get[0]": api.ErrName,
		"v_u8()": api.ErrName, "a_u8()": api.ErrName, "l_u8()": api.ErrName, "l_u8(1)": api.ErrName,
		"a_u8": api.ErrType, "a_i64": api.ErrType, "v_u8[1]": api.ErrType, "l_u8[1]": api.ErrType,
		"f_u8(1)": api.ErrMany, "g_u8()": api.ErrMany, "g_u8(1)": api.ErrMany, "g_u8(1, 2, 3)": api.ErrMany, "get(1)": api.ErrMany, "put()": api.ErrMany, "put(1, 2)": api.ErrMany, "f_void(1, 2, 3, 4, 5, 6, 7, 8)": api.ErrMany,
		// Kids come ahead of the name.
		"x[f_void()]": api.ErrType, "x[get(1)]": api.ErrMany, "x[a_u8]": api.ErrType, "v_u8[x]": api.ErrName, "v_u8[get(1)]": api.ErrMany, "a_u8[x]": api.ErrName, "a_u8[f_void()]": api.ErrType,
		// Of a call they come behind it, and behind how many there are.
		"x(f_void())": api.ErrName, "x(get(1))": api.ErrName, "f_u8(x)": api.ErrMany, "f_u8(f_void())": api.ErrMany, "g_u8(x)": api.ErrMany, "put(x)": api.ErrName, "put(f_void())": api.ErrType, "put(get(1))": api.ErrMany, "get(x)": api.ErrMany, "put(x, f_void())": api.ErrMany,
	} {
		isOf(t, s, text, fmt.Sprint("error ", int(err)))
		isOf(t, s, "-("+text+")", fmt.Sprint("error ", int(err)))
		isOf(t, s, "(u8)("+text+")", fmt.Sprint("error ", int(err)))
		isOf(t, s, "put("+text+")", fmt.Sprint("error ", int(err)))
	}
}

// TestWhichKidComesFirst: of two kids that are wrong the first one is told; that one tells nothing is its own error, ahead of the next one's.
func TestWhichKidComesFirst(t *testing.T) {
	s := scopeOf(t)
	wrong := map[string]api.Errno{"x": api.ErrName, "f_void()": api.ErrType, "get(1)": api.ErrMany, "a_u8": api.ErrType, "x()": api.ErrName, "put()": api.ErrMany}
	for a, first := range wrong {
		want := fmt.Sprint("error ", int(first))
		for b := range wrong {
			for sign := range twoSigns {
				isOf(t, s, a+" "+sign+" "+b, want)
			}
			isOf(t, s, "g_u8("+a+", "+b+")", want)
			isOf(t, s, "g_void(-"+a+", "+b+")", want)
		}
		for sign := range twoSigns {
			isOf(t, s, a+" "+sign+" 1", want)
			isOf(t, s, "1 "+sign+" "+a, want)
		}
		isOf(t, s, "g_u8(1, "+a+")", want)
		isOf(t, s, "g_u8("+a+", 1)", want)
	}
	for k := range api.MaxParams {
		eight := make([]api.Param, api.MaxParams)
		for i := range eight {
			eight[i] = api.Param{Type: u8t, Name: fmt.Sprint("p", i)}
		}
		args := strings.Split(strings.Repeat("1 ", api.MaxParams-1)+"1", " ")
		p := read(t, "void v() { } void main() { }")
		p.Funcs = append(p.Funcs, api.Func{Name: "e", Params: eight})
		with := func(err api.Errno) {
			t.Helper()
			p.Funcs[1].Body = list(expr(readExpr(t, "e("+strings.Join(args, ", ")+")")))
			answers(t, p, err, atIf(err, 1))
		}
		with(api.OK)
		args[k] = "v()"
		with(api.ErrType)
		for j := k + 1; j < api.MaxParams; j++ {
			args[j] = "nothing"
			with(api.ErrType)
			args[j] = "1"
		}
		args[k] = "get(1)"
		with(api.ErrMany)
		args = args[:len(args)-1]
		with(api.ErrMany)
	}
}

// TestHowManyArguments: of functions with any number of parameters, with any number of arguments.
func TestHowManyArguments(t *testing.T) {
	for takes := range api.MaxParams + 1 {
		for has := range api.MaxParams + 1 {
			f := api.Func{Name: "f", Params: make([]api.Param, takes)}
			for i := range f.Params {
				f.Params[i] = api.Param{Type: u8t, Name: fmt.Sprint("p", i)}
			}
			args := make([]api.Expr, has)
			for i := range args {
				args[i] = num(uint64(i))
			}
			err := api.OK
			if has != takes {
				err = api.ErrMany
			}
			answers(t, api.Program{Funcs: []api.Func{f, mainOf(none(), expr(call("f", args...)))}}, err, atIf(err, 1))
		}
	}
}

// TestFieldsThatAKindHasNot do not count.
func TestFieldsThatAKindHasNot(t *testing.T) {
	s := scopeOf(t)
	for _, c := range []struct {
		x    api.Expr
		want api.Type
	}{
		{api.Expr{Kind: api.CVar, N: 7, Type: u8t, Name: "v_i32"}, i32t},
		{api.Expr{Kind: api.CAt, N: 7, Type: u8t, Name: "a_i32", Kids: []api.Expr{num(1)}}, i32t},
		{api.Expr{Kind: api.CCall, N: 7, Type: u8t, Name: "f_i32"}, i32t},
		{api.Expr{Kind: api.CNum, N: 7, Type: i16t, Name: "v_i32"}, i16t},
		{api.Expr{Kind: api.CNeg, N: 7, Type: u8t, Name: "x", Kids: []api.Expr{name("v_u32")}}, u32t},
		{api.Expr{Kind: api.CLog, N: 7, Type: u8t, Name: "x", Kids: []api.Expr{name("v_u32")}}, i16t},
		{api.Expr{Kind: api.CAdd, N: 7, Type: u8t, Name: "x", Kids: []api.Expr{name("v_u32"), name("v_i64")}}, i64t},
		{api.Expr{Kind: api.CLor, N: 7, Type: u8t, Name: "x", Kids: []api.Expr{name("v_u32"), name("v_i64")}}, i16t},
	} {
		if got, err := s.typeOf(c.x); got != c.want || err != api.OK {
			t.Errorf("%+v: %s, %d comes, not %s", c.x, types.Name(got), err, types.Name(c.want))
		}
	}
}
