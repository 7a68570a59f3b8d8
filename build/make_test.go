package build

import (
	"fmt"
	"math/big"
	"strings"
	"testing"

	"pairlegal/api"
	"pairlegal/source"
)

// Types, by hand.
var (
	i8t  = api.Type{Bits: 8, Signed: true}
	u8t  = api.Type{Bits: 8}
	i16t = api.Type{Bits: 16, Signed: true}
	u16t = api.Type{Bits: 16}
	i32t = api.Type{Bits: 32, Signed: true}
	u32t = api.Type{Bits: 32}
	i64t = api.Type{Bits: 64, Signed: true}
	u64t = api.Type{Bits: 64}
)

var allTypes = []api.Type{i8t, u8t, i16t, u16t, i32t, u32t, i64t, u64t}

// typeName is how a type is written.
func typeName(t api.Type) string {
	if t.Signed {
		return fmt.Sprintf("i%d", t.Bits)
	}
	return fmt.Sprintf("u%d", t.Bits)
}

// read makes a program of a text that is one.
func read(t *testing.T, text string) api.Program {
	t.Helper()
	p, f := source.Read(text)
	if f.Err != api.OK {
		t.Fatalf("Read(%.3000q): %v comes", text, f)
	}
	return p
}

// shown is a program as a test may tell it.
func shown(p api.Program) string {
	if text, err := source.Show(p); err == api.OK {
		return text
	}
	return fmt.Sprintf("a program of %d nodes\n", source.Nodes(p))
}

// many is a text that stands there often.
func many(text string, n int) string { return strings.Repeat(text, n) }

// bounds are the least and the greatest number of a type.
func bounds(t api.Type) (least, greatest *big.Int) {
	all := new(big.Int).Lsh(big.NewInt(1), uint(t.Bits))
	if !t.Signed {
		return big.NewInt(0), all.Sub(all, big.NewInt(1))
	}
	half := all.Rsh(all, 1)
	return new(big.Int).Neg(half), new(big.Int).Sub(half, big.NewInt(1))
}

// edges are the numbers of a type at and next to its bounds and 0, and some of which just one word is not 0, or not full.
func edges(t api.Type) (out []*big.Int) {
	least, greatest := bounds(t)
	add := func(n *big.Int, more int64) { out = append(out, new(big.Int).Add(n, big.NewInt(more))) }
	add(least, 0)
	add(least, 1)
	add(greatest, -1)
	add(greatest, 0)
	for n := int64(-2); n <= 3; n++ {
		add(big.NewInt(0), n)
	}
	for up := uint(8); up < 64; up *= 2 {
		n := new(big.Int).Lsh(big.NewInt(1), up)
		add(n, 0)
		add(n, -1)
	}
	add(new(big.Int).Lsh(big.NewInt(1), 48), 0)
	return within(out, least, greatest)
}

// within has each number once, and just those between bounds.
func within(l []*big.Int, least, greatest *big.Int) (out []*big.Int) {
	seen := map[string]bool{}
	for _, n := range l {
		if n.Cmp(least) >= 0 && n.Cmp(greatest) <= 0 && !seen[n.String()] {
			seen[n.String()] = true
			out = append(out, n)
		}
	}
	return out
}

// bits are a number's, as a type has them.
func bits(n *big.Int, t api.Type) uint64 {
	all := new(big.Int).Lsh(big.NewInt(1), uint(t.Bits))
	return new(big.Int).Mod(n, all).Uint64()
}

// text is a number of a type as it is written in a program.
func text(n *big.Int, t api.Type) string {
	return fmt.Sprintf("(%s)%du", typeName(t), bits(n, t))
}

// texts is a list of such numbers, with commas between.
func texts(l []*big.Int, t api.Type) string {
	var out []string
	for _, n := range l {
		out = append(out, text(n, t))
	}
	return strings.Join(out, ", ")
}

// Expressions.

// num is a number as it is written, with a sign where that may be.
func num(n uint64) api.Expr {
	is := u64t
	switch {
	case n < 1<<15:
		is = i16t
	case n < 1<<31:
		is = i32t
	case n < 1<<63:
		is = i64t
	}
	return api.Expr{Kind: api.CNum, N: n, Type: is}
}

// written is an expression of a type that tells n.
func written(n *big.Int, t api.Type) api.Expr { return cast(t, num(bits(n, u64t))) }

func name(s string) api.Expr { return api.Expr{Kind: api.CVar, Name: s} }

func at(s string, x api.Expr) api.Expr {
	return api.Expr{Kind: api.CAt, Name: s, Kids: []api.Expr{x}}
}

func call(s string, l ...api.Expr) api.Expr { return api.Expr{Kind: api.CCall, Name: s, Kids: l} }

func cast(t api.Type, x api.Expr) api.Expr {
	return api.Expr{Kind: api.CCast, Type: t, Kids: []api.Expr{x}}
}

func one(kind int, x api.Expr) api.Expr { return api.Expr{Kind: kind, Kids: []api.Expr{x}} }

func two(kind int, a, b api.Expr) api.Expr { return api.Expr{Kind: kind, Kids: []api.Expr{a, b}} }

// Statements.

func none() api.Stat { return api.Stat{Kind: api.SNone} }

func expr(x api.Expr) api.Stat { return api.Stat{Kind: api.SExpr, X: x} }

func put(x api.Expr) api.Stat { return expr(call("put", x)) }

func returning(x api.Expr) api.Stat { return api.Stat{Kind: api.SReturn, Has: true, X: x} }

func list(l ...api.Stat) []api.Stat { return l }

// mainOf is a function main of statements.
func mainOf(l ...api.Stat) api.Func { return api.Func{Name: "main", Body: l} }
