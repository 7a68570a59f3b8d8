package fold

import (
	"math/big"
	"math/rand"

	"pairlegal/api"
)

// The model works from the outside in, with numbers that have no width: an expression of numbers alone is a number, unless it divides by nought.

// value is a number as it is meant, of a type.
type value struct {
	n  *big.Int
	is api.Type
}

// bounds are the least and the greatest number of a type.
func bounds(t api.Type) (least, greatest *big.Int) {
	all := new(big.Int).Lsh(big.NewInt(1), uint(t.Bits))
	if !t.Signed {
		return big.NewInt(0), all.Sub(all, big.NewInt(1))
	}
	half := all.Rsh(all, 1)
	return new(big.Int).Neg(half), new(big.Int).Sub(half, big.NewInt(1))
}

// wrapped brings a number between the bounds of a type.
func wrapped(n *big.Int, t api.Type) *big.Int {
	least, greatest := bounds(t)
	all := new(big.Int).Sub(greatest, least)
	all.Add(all, big.NewInt(1))
	out := new(big.Int).Sub(n, least)
	return out.Mod(out, all).Add(out, least)
}

// bits are a number's, as a type has them.
func bits(n *big.Int, t api.Type) uint64 {
	return wrapped(n, api.Type{Bits: t.Bits}).Uint64()
}

func wide(t api.Type) api.Type {
	if t.Bits < 16 {
		return i16t
	}
	return t
}

func both(a, b api.Type) api.Type {
	a, b = wide(a), wide(b)
	if a.Bits < b.Bits || a.Bits == b.Bits && a.Signed {
		return b
	}
	return a
}

func truth(holds bool) *value {
	if holds {
		return &value{big.NewInt(1), i16t}
	}
	return &value{big.NewInt(0), i16t}
}

// valued is what an expression is, or nil.
func valued(x api.Expr) *value {
	if x.Kind == api.CNum {
		return &value{new(big.Int).SetUint64(x.N), x.Type}
	}
	if x.Kind == api.CVar || x.Kind == api.CAt || x.Kind == api.CCall {
		return nil
	}
	var kids []*value
	for _, kid := range x.Kids {
		v := valued(kid)
		if v == nil {
			return nil
		}
		kids = append(kids, v)
	}
	if len(kids) == 1 {
		return valuedOne(x, kids[0])
	}
	return valuedTwo(x.Kind, kids[0], kids[1])
}

func valuedOne(x api.Expr, a *value) *value {
	n, t := new(big.Int), wide(a.is)
	switch x.Kind {
	case api.CCast:
		n, t = a.n, x.Type
	case api.CNeg:
		n.Neg(a.n)
	case api.CNot:
		n.Not(a.n)
	case api.CLog:
		return truth(a.n.Sign() == 0)
	}
	return &value{wrapped(n, t), t}
}

func valuedTwo(kind int, x, y *value) *value {
	t := both(x.is, y.is)
	a, b, n := wrapped(x.n, t), wrapped(y.n, t), new(big.Int)
	switch kind {
	case api.CMul:
		n.Mul(a, b)
	case api.CDiv, api.CRem:
		if b.Sign() == 0 {
			return nil
		}
		if kind == api.CDiv {
			n.Quo(a, b)
		} else {
			n.Rem(a, b)
		}
	case api.CAdd:
		n.Add(a, b)
	case api.CSub:
		n.Sub(a, b)
	case api.CShl, api.CShr:
		return moved(kind, x, uint(bits(y.n, u16t)))
	case api.CLt, api.CLe, api.CGt, api.CGe, api.CEq, api.CNe:
		order := a.Cmp(b)
		return truth([]bool{order < 0, order <= 0, order > 0, order >= 0, order == 0, order != 0}[kind-api.CLt])
	case api.CAnd:
		n.And(a, b)
	case api.CXor:
		n.Xor(a, b)
	case api.COr:
		n.Or(a, b)
	case api.CLand:
		return truth(x.n.Sign() != 0 && y.n.Sign() != 0)
	case api.CLor:
		return truth(x.n.Sign() != 0 || y.n.Sign() != 0)
	}
	return &value{wrapped(n, t), t}
}

func moved(kind int, x *value, places uint) *value {
	t, n := wide(x.is), new(big.Int)
	if kind == api.CShl {
		n.Lsh(x.n, places)
	} else {
		n.Rsh(x.n, places)
	}
	return &value{wrapped(n, t), t}
}

// literals has, of each type that a number may be written as without a cast, the least and the greatest one that is.
var literals = []struct {
	is              api.Type
	least, greatest uint64
}{
	{i16t, 0, 1<<15 - 1}, {i32t, 1 << 15, 1<<31 - 1}, {i64t, 1 << 31, 1<<63 - 1},
	{u16t, 0, 1<<16 - 1}, {u32t, 1 << 16, 1<<32 - 1}, {u64t, 1 << 32, 1<<64 - 1},
}

// literal is n of the type with a sign, or without one, that it has when it is read.
func literal(n uint64, signed bool) (api.Expr, bool) {
	for _, l := range literals {
		if l.is.Signed == signed && n >= l.least && n <= l.greatest {
			return api.Expr{Kind: api.CNum, N: n, Type: l.is}, true
		}
	}
	return api.Expr{}, false
}

// put is what a value is written as.
func put(v *value) api.Expr {
	n := bits(v.n, v.is)
	if x, ok := literal(n, v.is.Signed); ok && x.Type == v.is {
		return x
	}
	x, _ := literal(n, false)
	return cast(v.is, x)
}

func modelExpr(x api.Expr) api.Expr {
	if v := valued(x); v != nil && x.Kind != api.CNum {
		return put(v)
	}
	x = bare(x)
	for i, kid := range x.Kids {
		x.Kids[i] = modelExpr(kid)
	}
	return x
}

func modelExprs(l []api.Expr) (out []api.Expr) {
	for _, x := range l {
		out = append(out, modelExpr(x))
	}
	return out
}

// modelBlock leaves out of statements what is not done.
func modelBlock(l []api.Stat) (out []api.Stat) {
	for _, s := range l {
		// X as it was handed in: whether it is known is not asked of what became of it.
		var v *value
		if s.Kind == api.SIf || s.Kind == api.SWhile {
			v = valued(s.X)
		}
		switch {
		case s.Kind == api.SIf && v != nil && v.n.Sign() != 0:
			s = api.Stat{Kind: api.SBlock, Body: modelBlock(s.Body)}
		case s.Kind == api.SIf && v != nil:
			s = api.Stat{Kind: api.SBlock, Body: modelBlock(s.Else)}
		case s.Kind == api.SWhile && v != nil && v.n.Sign() == 0:
			s = api.Stat{Kind: api.SNone}
		default:
			s = modelStat(s)
		}
		out = append(out, s)
	}
	return out
}

// modelStat works out all parts; those that a kind has not are nothing in what the maker makes.
func modelStat(s api.Stat) api.Stat {
	if s.X.Kind != 0 {
		s.X = modelExpr(s.X)
	}
	if s.I.Kind != 0 {
		s.I = modelExpr(s.I)
	}
	s.Init, s.Step, s.Body, s.Else = modelBlock(s.Init), modelBlock(s.Step), modelBlock(s.Body), modelBlock(s.Else)
	return s
}

func modelProgram(p api.Program) api.Program {
	var out api.Program
	for _, g := range p.Globals {
		g.Init = modelExprs(g.Init)
		out.Globals = append(out.Globals, g)
	}
	for _, f := range p.Funcs {
		f.Body = modelBlock(f.Body)
		out.Funcs = append(out.Funcs, f)
	}
	return out
}

// maker makes programs at random with which nothing is wrong, mostly of numbers.
type maker struct {
	*rand.Rand
	locals []string
	made   int
	loops  int
}

// edges are numbers at and next to the bounds of types.
func edges() []uint64 {
	out := []uint64{0, 1, 2, 3, 7, 10}
	for _, places := range []int{7, 8, 15, 16, 31, 32, 63} {
		n := uint64(1) << places
		out = append(out, n-2, n-1, n, n+1)
	}
	return append(out, 1<<64-2, 1<<64-1)
}

func (m *maker) number() api.Expr {
	l := edges()
	n := l[m.Intn(len(l))]
	if m.Intn(2) == 0 {
		n = l[m.Intn(6)]
	}
	x, ok := literal(n, m.Intn(2) == 0)
	if !ok {
		x, _ = literal(n, false)
	}
	return x
}

// leaf is a number; one time in open it is something else.
func (m *maker) leaf(open int) api.Expr {
	if open > 0 && m.Intn(open) == 0 {
		if m.Intn(4) == 0 {
			return call("get")
		}
		return name(m.locals[m.Intn(len(m.locals))])
	}
	return m.number()
}

func (m *maker) expr(deep, open int) api.Expr {
	k := m.Intn(14)
	switch {
	case deep <= 0 || k < 2:
		return m.leaf(open)
	case k == 2 && open > 0:
		return at("array", m.expr(deep-1, open))
	case k == 3 && open > 0:
		return call("f", m.expr(deep-1, open), m.expr(deep-1, open))
	case k < 6:
		return cast(allTypes[m.Intn(8)], m.expr(deep-1, open))
	case k < 8:
		return one(api.CNeg+m.Intn(3), m.expr(deep-1, open))
	}
	return two(api.CMul+m.Intn(18), m.expr(deep-1, open), m.expr(deep-1, open))
}

// any is an expression of which much, or not much, is known.
func (m *maker) any() api.Expr { return m.expr(m.Intn(4), []int{0, 2, 4, 9}[m.Intn(4)]) }

// constant is one that Const tells.
func (m *maker) constant() api.Expr {
	for {
		if x := m.expr(m.Intn(5), 0); valued(x) != nil {
			return x
		}
	}
}

func (m *maker) block(deep int) (out []api.Stat) {
	ahead := len(m.locals)
	for range m.Intn(4) {
		out = append(out, m.stat(deep-1))
	}
	m.locals = m.locals[:ahead]
	return out
}

func (m *maker) loop(deep int) []api.Stat {
	m.loops++
	defer func() { m.loops-- }()
	return m.block(deep)
}

func (m *maker) set() api.Stat {
	if m.Intn(2) == 0 {
		return api.Stat{Kind: api.SSet, Name: "array", Has: true, I: m.any(), X: m.any()}
	}
	return api.Stat{Kind: api.SSet, Name: m.locals[m.Intn(len(m.locals))], X: m.any()}
}

func (m *maker) perhaps() []api.Stat {
	return [][]api.Stat{nil, list(m.set()), list(expr(call("put", m.any())))}[m.Intn(3)]
}

func (m *maker) declaration() api.Stat {
	if m.made == 20 {
		return none()
	}
	s := api.Stat{Kind: api.SDecl, Type: allTypes[m.Intn(8)], Name: "local" + string(rune('a'+m.made)), Has: m.Intn(2) == 0}
	if s.Has {
		s.X = m.any()
	}
	m.made++
	m.locals = append(m.locals, s.Name)
	return s
}

func (m *maker) stat(deep int) api.Stat {
	k := m.Intn(13)
	switch {
	case k == 0:
		return none()
	case k == 1:
		return m.declaration()
	case k == 2:
		return m.set()
	case k == 3:
		return expr(call("put", m.any()))
	case k == 4:
		return api.Stat{Kind: api.SReturn, Has: true, X: m.any()}
	case k == 5 && m.loops > 0:
		return api.Stat{Kind: api.SBreak + m.Intn(2)}
	case deep <= 0:
		return expr(m.any())
	case k < 9:
		return api.Stat{Kind: api.SIf, X: m.any(), Body: m.block(deep), Else: m.block(deep)}
	case k < 11:
		return api.Stat{Kind: api.SWhile, X: m.any(), Body: m.loop(deep)}
	case k == 11:
		s := api.Stat{Kind: api.SFor, Init: m.perhaps(), Step: m.perhaps(), Has: m.Intn(2) == 0, Body: m.loop(deep)}
		if s.Has {
			s.X = m.any()
		}
		return s
	}
	return api.Stat{Kind: api.SBlock, Body: m.block(deep)}
}

func (m *maker) function(name string, params ...api.Param) api.Func {
	m.locals, m.made = []string{"global"}, 0
	for _, p := range params {
		m.locals = append(m.locals, p.Name)
	}
	f := api.Func{Name: name, Result: allTypes[m.Intn(8)], Params: params}
	for range m.Intn(5) {
		f.Body = append(f.Body, m.stat(3))
	}
	return f
}

func (m *maker) program() api.Program {
	p := api.Program{Globals: []api.Global{{Type: allTypes[m.Intn(8)], Name: "global", Init: []api.Expr{m.constant()}}, {Type: allTypes[m.Intn(8)], Name: "array", Size: 4}}}
	for range m.Intn(5) {
		p.Globals[1].Init = append(p.Globals[1].Init, m.constant())
	}
	f := m.function("f", api.Param{Type: i64t, Name: "x"}, api.Param{Type: u8t, Name: "y"})
	p.Funcs = append(p.Funcs, f, m.function("main"))
	return p
}
