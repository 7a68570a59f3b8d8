package eval

import (
	"math/big"
	"reflect"
	"testing"

	"pairlegal/api"
)

// The model goes through the program itself, with numbers that have no width and names that are looked up when they are come to. It runs once, and remembers when what was told and taken in: what a limit makes of it is cut out of that.

// meant is a number as it is meant, of a type.
type meant struct {
	n  *big.Int
	is api.Type
}

// bounds are the least and the greatest number of a type.
func bounds(t api.Type) (least, greatest *big.Int) {
	all := new(big.Int).Lsh(big.NewInt(1), uint(t.Bits))
	if !t.Signed {
		return big.NewInt(0), all.Sub(all, big.NewInt(1))
	}
	half := all.Rsh(all, 1)
	return new(big.Int).Neg(half), new(big.Int).Sub(half, big.NewInt(1))
}

// wrapped brings a number between the bounds of a type.
func wrapped(n *big.Int, t api.Type) *big.Int {
	least, greatest := bounds(t)
	all := new(big.Int).Sub(greatest, least)
	all.Add(all, big.NewInt(1))
	out := new(big.Int).Sub(n, least)
	return out.Mod(out, all).Add(out, least)
}

// bits are a number's, as a type has them.
func bits(n *big.Int, t api.Type) uint64 {
	return wrapped(n, api.Type{Bits: t.Bits}).Uint64()
}

// edges are the numbers at and next to the bounds of a type, and to 0.
func edges(t api.Type) (out []*big.Int) {
	least, greatest := bounds(t)
	l := []*big.Int{least, new(big.Int).Add(least, big.NewInt(1)), big.NewInt(0), big.NewInt(1), big.NewInt(3), new(big.Int).Sub(greatest, big.NewInt(1)), greatest}
	if t.Signed {
		return append(l, big.NewInt(-1), big.NewInt(-3))
	}
	return l[2:]
}

// literal is n of the type with a sign, or without one, that it has when it is read.
func literal(n uint64, signed bool) (api.Expr, bool) {
	for _, l := range []struct {
		is              api.Type
		least, greatest uint64
	}{
		{i16t, 0, 1<<15 - 1}, {i32t, 1 << 15, 1<<31 - 1}, {i64t, 1 << 31, 1<<63 - 1},
		{u16t, 0, 1<<16 - 1}, {u32t, 1 << 16, 1<<32 - 1}, {u64t, 1 << 32, 1<<64 - 1},
	} {
		if l.is.Signed == signed && n >= l.least && n <= l.greatest {
			return api.Expr{Kind: api.CNum, N: n, Type: l.is}, true
		}
	}
	return api.Expr{}, false
}

// written is an expression of a type that tells n.
func written(n *big.Int, t api.Type) api.Expr {
	x, _ := literal(bits(n, u64t), false)
	return cast(t, x)
}

func wide(t api.Type) api.Type {
	if t.Bits < 16 {
		return i16t
	}
	return t
}

func both(a, b api.Type) api.Type {
	a, b = wide(a), wide(b)
	if a.Bits < b.Bits || a.Bits == b.Bits && a.Signed {
		return b
	}
	return a
}

func truth(holds bool) meant {
	if holds {
		return meant{big.NewInt(1), i16t}
	}
	return meant{big.NewInt(0), i16t}
}

// oneKid is what an expression with one kid, which is no CAt, makes of it.
func oneKid(x api.Expr, a meant) meant {
	n, t := new(big.Int), wide(a.is)
	switch x.Kind {
	case api.CCast:
		n, t = a.n, x.Type
	case api.CNeg:
		n.Neg(a.n)
	case api.CNot:
		n.Not(a.n)
	case api.CLog:
		return truth(a.n.Sign() == 0)
	}
	return meant{wrapped(n, t), t}
}

// twoKids is what a kind from CMul to COr makes of two; false, if it divides by nought.
func twoKids(kind int, x, y meant) (meant, bool) {
	t := both(x.is, y.is)
	a, b, n := wrapped(x.n, t), wrapped(y.n, t), new(big.Int)
	switch kind {
	case api.CMul:
		n.Mul(a, b)
	case api.CDiv, api.CRem:
		if b.Sign() == 0 {
			return meant{}, false
		}
		if kind == api.CDiv {
			n.Quo(a, b)
		} else {
			n.Rem(a, b)
		}
	case api.CAdd:
		n.Add(a, b)
	case api.CSub:
		n.Sub(a, b)
	case api.CShl, api.CShr:
		return moved(kind, x, uint(bits(y.n, u16t))), true
	case api.CLt, api.CLe, api.CGt, api.CGe, api.CEq, api.CNe:
		order := a.Cmp(b)
		return truth([]bool{order < 0, order <= 0, order > 0, order >= 0, order == 0, order != 0}[kind-api.CLt]), true
	case api.CAnd:
		n.And(a, b)
	case api.CXor:
		n.Xor(a, b)
	case api.COr:
		n.Or(a, b)
	}
	return meant{wrapped(n, t), t}, true
}

func moved(kind int, x meant, places uint) meant {
	t, n := wide(x.is), new(big.Int)
	// Behind the last bit nothing changes any more.
	places = min(places, 64)
	if kind == api.CShl {
		n.Lsh(x.n, places)
	} else {
		n.Rsh(x.n, places)
	}
	return meant{wrapped(n, t), t}
}

// ending is what the model panics with when a run ends.
type ending struct{ how, trap int }

// trace is what came of a run, with how many ticks were taken when each byte was told, or taken in.
type trace struct {
	ending
	output         []byte
	toldAt, readAt []int
	ticks          int
	result         uint64
}

// cut is what comes of the run with a limit that is not larger than that of the trace.
func (r trace) cut(limit int) api.Told {
	out := api.Told{How: r.how, Trap: r.trap, Ticks: r.ticks, Result: r.result}
	if r.ticks > limit {
		out = api.Told{How: api.RanFuel, Ticks: limit}
	}
	for i, ticks := range r.toldAt {
		if ticks <= limit {
			out.Output = append(out.Output, r.output[i])
		}
	}
	for _, ticks := range r.readAt {
		if ticks <= limit {
			out.Read++
		}
	}
	return out
}

// model is a run; its blocks are those that are open in the innermost call, from the outermost one on.
type model struct {
	trace
	program api.Program
	input   []byte
	limit   int
	calls   int
	globals map[string][]meant
	blocks  []map[string]meant
	telling api.Type
	answer  meant
}

// modelled is what the model makes of a program.
func modelled(p api.Program, input string, limit int) (out trace) {
	m := &model{program: p, input: []byte(input), limit: limit, globals: map[string][]meant{}}
	for _, g := range p.Globals {
		m.globals[g.Name] = first(g)
	}
	defer func() {
		thrown := recover()
		e, ok := thrown.(ending)
		if thrown != nil && !ok {
			panic(thrown)
		}
		if !ok {
			e.how = api.RanHalt
		}
		out = m.trace
		out.ending = e
	}()
	back := m.called("main", nil)
	if back.is != (api.Type{}) {
		m.result = bits(back.n, back.is)
	}
	return out
}

// first is what a variable of all has at first; its numbers are worked out without a limit.
func first(g api.Global) []meant {
	out := []meant{}
	for i := range max(1, g.Size) {
		n := big.NewInt(0)
		if i < len(g.Init) {
			n = (&model{limit: api.MaxNodes}).expr(g.Init[i]).n
		}
		out = append(out, meant{wrapped(n, g.Type), g.Type})
	}
	return out
}

func (m *model) end(how, trap int) { panic(ending{how, trap}) }

func (m *model) tick() {
	if m.ticks == m.limit {
		m.end(api.RanFuel, 0)
	}
	m.ticks++
}

// place finds a name, from the innermost block on.
func (m *model) place(s string) (map[string]meant, bool) {
	for i := len(m.blocks) - 1; i >= 0; i-- {
		if _, ok := m.blocks[i][s]; ok {
			return m.blocks[i], true
		}
	}
	return nil, false
}

func (m *model) index(s string, x api.Expr) int {
	n := bits(m.expr(x).n, u16t)
	if n >= uint64(len(m.globals[s])) {
		m.end(api.RanTrap, api.TrapPlace)
	}
	return int(n)
}

func (m *model) expr(x api.Expr) meant {
	m.tick()
	switch x.Kind {
	case api.CNum:
		return meant{new(big.Int).SetUint64(x.N), x.Type}
	case api.CVar:
		if b, ok := m.place(x.Name); ok {
			return b[x.Name]
		}
		return m.globals[x.Name][0]
	case api.CAt:
		return m.globals[x.Name][m.index(x.Name, x.Kids[0])]
	case api.CCall:
		return m.call(x)
	case api.CLand:
		return truth(m.expr(x.Kids[0]).n.Sign() != 0 && m.expr(x.Kids[1]).n.Sign() != 0)
	case api.CLor:
		return truth(m.expr(x.Kids[0]).n.Sign() != 0 || m.expr(x.Kids[1]).n.Sign() != 0)
	}
	a := m.expr(x.Kids[0])
	if len(x.Kids) == 1 {
		return oneKid(x, a)
	}
	out, ok := twoKids(x.Kind, a, m.expr(x.Kids[1]))
	if !ok {
		m.end(api.RanTrap, api.TrapZero)
	}
	return out
}

func (m *model) call(x api.Expr) meant {
	var given []meant
	for _, kid := range x.Kids {
		given = append(given, m.expr(kid))
	}
	switch x.Name {
	case "put":
		if len(m.output) == api.MaxTold {
			m.end(api.RanMuch, 0)
		}
		m.output = append(m.output, byte(bits(given[0].n, u8t)))
		m.toldAt = append(m.toldAt, m.ticks)
		return meant{}
	case "get":
		if len(m.readAt) == len(m.input) {
			return meant{big.NewInt(-1), i16t}
		}
		m.readAt = append(m.readAt, m.ticks)
		return meant{big.NewInt(int64(m.input[len(m.readAt)-1])), i16t}
	}
	return m.called(x.Name, given)
}

func (m *model) called(s string, given []meant) meant {
	if m.calls == api.MaxCalls {
		m.end(api.RanTrap, api.TrapCalls)
	}
	for _, f := range m.program.Funcs {
		if f.Name != s {
			continue
		}
		blocks, telling := m.blocks, m.telling
		m.blocks, m.telling = []map[string]meant{{}}, f.Result
		for i, p := range f.Params {
			m.blocks[0][p.Name] = meant{wrapped(given[i].n, p.Type), p.Type}
		}
		m.calls++
		out := meant{big.NewInt(0), f.Result}
		if m.block(f.Body) == "return" && m.answer.n != nil {
			out = m.answer
		}
		m.calls--
		m.blocks, m.telling = blocks, telling
		return out
	}
	panic("no function " + s)
}

// block answers how it was left: "", "break", "continue" or "return".
func (m *model) block(l []api.Stat) string {
	m.blocks = append(m.blocks, map[string]meant{})
	depth := len(m.blocks)
	how := ""
	for i := 0; i < len(l) && how == ""; i++ {
		how = m.stat(l[i])
	}
	m.blocks = m.blocks[:depth-1]
	return how
}

func (m *model) set(s api.Stat) {
	if s.Has {
		i := m.index(s.Name, s.I)
		t := m.globals[s.Name][i].is
		m.globals[s.Name][i] = meant{wrapped(m.expr(s.X).n, t), t}
		return
	}
	n := m.expr(s.X).n
	if b, ok := m.place(s.Name); ok {
		b[s.Name] = meant{wrapped(n, b[s.Name].is), b[s.Name].is}
		return
	}
	t := m.globals[s.Name][0].is
	m.globals[s.Name][0] = meant{wrapped(n, t), t}
}

func (m *model) stat(s api.Stat) string {
	m.tick()
	switch s.Kind {
	case api.SDecl:
		n := big.NewInt(0)
		if s.Has {
			n = m.expr(s.X).n
		}
		m.blocks[len(m.blocks)-1][s.Name] = meant{wrapped(n, s.Type), s.Type}
	case api.SSet:
		m.set(s)
	case api.SExpr:
		m.expr(s.X)
	case api.SReturn:
		m.answer = meant{}
		if s.Has {
			n := m.expr(s.X).n
			m.answer = meant{wrapped(n, m.telling), m.telling}
		}
		return "return"
	case api.SBreak:
		return "break"
	case api.SContinue:
		return "continue"
	case api.SIf:
		if m.expr(s.X).n.Sign() != 0 {
			return m.block(s.Body)
		}
		return m.block(s.Else)
	case api.SWhile, api.SFor:
		return m.loop(s)
	case api.SBlock:
		return m.block(s.Body)
	}
	return ""
}

func (m *model) asks(s api.Stat) bool {
	m.tick()
	if s.Kind == api.SFor && !s.Has {
		return true
	}
	return m.expr(s.X).n.Sign() != 0
}

func (m *model) loop(s api.Stat) string {
	if s.Kind == api.SFor {
		m.block(s.Init)
	}
	for m.asks(s) {
		how := m.block(s.Body)
		if how == "break" {
			return ""
		}
		if how == "return" {
			return how
		}
		if s.Kind == api.SFor {
			m.block(s.Step)
		}
	}
	return ""
}

// agrees holds a program against the model, at a limit and at each lesser one up to most.
func agrees(t *testing.T, p api.Program, input string, limit, most int) {
	t.Helper()
	r := modelled(p, input, limit)
	runs(t, p, input, limit, r.cut(limit))
	for n := 0; n <= min(most, r.ticks+1, limit); n++ {
		got, f := Run(p, []byte(input), n)
		if want := r.cut(n); f != (api.Fault{}) || !reflect.DeepEqual(plain(got), plain(want)) {
			t.Fatalf("%s, %v comes, not %s, of %.100q, %d, and\n%.2000s", brief(got), f, brief(want), input, n, shown(p))
		}
	}
}
