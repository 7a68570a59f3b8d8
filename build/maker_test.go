package build

import (
	"fmt"
	"math/rand"

	"pairlegal/api"
)

// maker makes programs at random with which nothing is wrong; they tell much, and few of them end early.
type maker struct {
	*rand.Rand
	names []string // of numbers that are seen
	made  int      // names that the function declares so far
	loops int
	hides []string // variables of all that the function may hide yet
}

func made(seed int64) *maker { return &maker{Rand: rand.New(rand.NewSource(seed))} }

func (m *maker) typ() api.Type { return allTypes[m.Intn(len(allTypes))] }

func (m *maker) number() api.Expr {
	switch m.Intn(4) {
	case 0:
		t := m.typ()
		l := edges(t)
		return written(l[m.Intn(len(l))], t)
	case 1:
		return num(m.Uint64() >> m.Intn(64))
	}
	return num(uint64(m.Intn(5)))
}

func (m *maker) leaf() api.Expr {
	switch m.Intn(6) {
	case 0:
		return call("get")
	case 1, 2:
		return m.number()
	}
	return name(m.names[m.Intn(len(m.names))])
}

// place is one of an array's, but for one time in six.
func (m *maker) place(deep int) api.Expr {
	x := m.expr(deep)
	if m.Intn(6) == 0 {
		return x
	}
	return two(api.CAnd, x, num(3))
}

func (m *maker) array() string { return []string{"narrow", "wide"}[m.Intn(2)] }

func (m *maker) calls(deep int) api.Expr {
	switch m.Intn(3) {
	case 0:
		return call("f", m.expr(deep), m.expr(deep))
	case 1:
		return call("g", m.expr(deep-1), m.expr(deep-1), m.expr(deep-1), m.expr(deep-1))
	}
	return call("say", m.expr(deep))
}

func (m *maker) expr(deep int) api.Expr {
	k := m.Intn(16)
	switch {
	case deep <= 0 || k < 3:
		return m.leaf()
	case k == 3:
		return at(m.array(), m.place(deep-1))
	case k < 6:
		return m.calls(deep - 1)
	case k < 8:
		return cast(m.typ(), m.expr(deep-1))
	case k < 10:
		return one(api.CNeg+m.Intn(3), m.expr(deep-1))
	}
	kind := api.CMul + m.Intn(18)
	a, b := m.expr(deep-1), m.expr(deep-1)
	if (kind == api.CDiv || kind == api.CRem) && m.Intn(4) != 0 {
		b = two(api.COr, b, num(1))
	}
	return two(kind, a, b)
}

func (m *maker) any() api.Expr { return m.expr(m.Intn(5)) }

// constant is a number of all that Const tells: of numbers, and none divided.
func (m *maker) constant() api.Expr {
	a, b := m.number(), m.number()
	kinds := []int{api.CMul, api.CAdd, api.CSub, api.CShl, api.CShr, api.CLt, api.CGe, api.CEq, api.CXor, api.COr, api.CLand, api.CLor}
	switch m.Intn(3) {
	case 0:
		return a
	case 1:
		return one(api.CNeg+m.Intn(3), a)
	}
	return two(kinds[m.Intn(len(kinds))], a, b)
}

func (m *maker) block(deep int) (out []api.Stat) {
	ahead := len(m.names)
	for range m.Intn(4) {
		out = append(out, m.stat(deep-1))
	}
	m.names = m.names[:ahead]
	return out
}

func (m *maker) loop(deep int) []api.Stat {
	m.loops++
	defer func() { m.loops-- }()
	return m.block(deep)
}

func (m *maker) set() api.Stat {
	if m.Intn(3) == 0 {
		return api.Stat{Kind: api.SSet, Name: m.array(), Has: true, I: m.place(1), X: m.any()}
	}
	return api.Stat{Kind: api.SSet, Name: m.names[m.Intn(len(m.names))], X: m.any()}
}

func (m *maker) perhaps() []api.Stat {
	return [][]api.Stat{nil, list(m.set()), list(put(m.any()))}[m.Intn(3)]
}

// declaration declares a new name, or one that hides a variable of all.
func (m *maker) declaration() api.Stat {
	if m.made == 20 {
		return none()
	}
	s := api.Stat{Kind: api.SDecl, Type: m.typ(), Name: fmt.Sprintf("local%d", m.made), Has: m.Intn(2) == 0}
	if len(m.hides) > 0 && m.Intn(3) == 0 {
		s.Name, m.hides = m.hides[0], m.hides[1:]
	}
	if s.Has {
		s.X = m.any()
	}
	m.made++
	m.names = append(m.names, s.Name)
	return s
}

func (m *maker) forLoop(deep int) api.Stat {
	s := api.Stat{Kind: api.SFor, Init: m.perhaps(), Step: m.perhaps(), Has: m.Intn(4) != 0, Body: m.loop(deep)}
	if s.Has {
		s.X = m.any()
	}
	return s
}

func (m *maker) stat(deep int) api.Stat {
	k := m.Intn(17)
	switch {
	case k == 0:
		return none()
	case k < 4:
		return m.declaration()
	case k < 6:
		return m.set()
	case k < 9:
		return put(m.any())
	case k == 9 && m.Intn(2) == 0:
		return returning(m.any())
	case k < 11 && m.loops > 0:
		return api.Stat{Kind: api.SBreak + m.Intn(2)}
	case deep <= 0:
		return expr(m.any())
	case k < 13:
		return api.Stat{Kind: api.SIf, X: m.any(), Body: m.block(deep), Else: m.block(deep)}
	case k < 14:
		return api.Stat{Kind: api.SWhile, X: m.any(), Body: m.loop(deep)}
	case k < 16:
		return m.forLoop(deep)
	}
	return api.Stat{Kind: api.SBlock, Body: m.block(deep)}
}

func (m *maker) function(name string, params ...string) api.Func {
	m.names, m.made, m.hides = []string{"one", "two", "six"}, 0, []string{"six", "one"}
	f := api.Func{Name: name, Result: m.typ()}
	for _, s := range params {
		f.Params = append(f.Params, api.Param{Type: m.typ(), Name: s})
		m.names = append(m.names, s)
	}
	for range 1 + m.Intn(5) {
		f.Body = append(f.Body, m.stat(3))
	}
	return f
}

// program has say, which tells what it is given and answers it, so that it is seen in which order things are done.
func (m *maker) program() api.Program {
	var p api.Program
	for _, s := range []string{"one", "two", "six"} {
		g := api.Global{Type: m.typ(), Name: s}
		if m.Intn(3) != 0 {
			g.Init = append(g.Init, m.constant())
		}
		p.Globals = append(p.Globals, g)
	}
	for i, s := range []string{"narrow", "wide"} {
		array := api.Global{Type: allTypes[4*i+m.Intn(4)], Name: s, Size: 4 + i}
		for range m.Intn(5) {
			array.Init = append(array.Init, m.constant())
		}
		p.Globals = append(p.Globals, array)
	}
	say := api.Func{Name: "say", Result: m.typ(), Params: []api.Param{{Type: m.typ(), Name: "x"}}, Body: list(put(name("x")), returning(name("x")))}
	p.Funcs = append(p.Funcs, m.function("f", "a", "b"), m.function("main"), say, m.function("g", "a", "b", "c", "d"))
	return p
}

// input is a few bytes.
func (m *maker) input() string {
	out := make([]byte, m.Intn(12))
	for i := range out {
		out[i] = byte(m.Intn(256))
	}
	return string(out)
}
