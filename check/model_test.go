package check

import (
	"fmt"
	"math/rand"
	"slices"
	"testing"

	"pairlegal/api"
	"pairlegal/source"
)

// judge is another Check: it goes on behind an error, gathers all that is wrong, and takes the first one.
type judge struct {
	p      api.Program
	faults []api.Fault
	at     int
	f      api.Func
}

// seen is a name that is seen, ahead of those that were seen earlier: a list that no block needs to close.
type seen struct {
	name  string
	array bool
	is    string
	more  *seen
}

func (s *seen) find(name string) *seen {
	for s != nil && s.name != name {
		s = s.more
	}
	return s
}

func judged(p api.Program) api.Fault {
	if err := source.Wrong(p); err != api.OK {
		return api.Fault{Err: err}
	}
	j := &judge{p: p}
	all := j.variables()
	j.functionNames()
	for i, f := range p.Funcs {
		j.at, j.f = len(p.Globals)+i, f
		j.function(all)
	}
	j.at = len(p.Globals) + len(p.Funcs)
	j.say(!slices.ContainsFunc(p.Funcs, func(f api.Func) bool { return f.Name == "main" && len(f.Params) == 0 }), api.ErrNone)
	if len(j.faults) == 0 {
		return api.Fault{}
	}
	return j.faults[0]
}

func (j *judge) say(wrong bool, err api.Errno) {
	if wrong {
		j.faults = append(j.faults, api.Fault{Err: err, At: j.at})
	}
}

func (j *judge) variables() *seen {
	var all *seen
	words := 0
	for i, g := range j.p.Globals {
		j.at = i
		j.say(g.Name == "put" || g.Name == "get" || all.find(g.Name) != nil, api.ErrName)
		each := typeWords[slices.Index(typeNames, nameOfType(g.Type))]
		if g.Size > 0 {
			each *= g.Size
		}
		words += each
		j.say(words > 8000, api.ErrMuch)
		for _, x := range g.Init {
			_, err := model(x)
			j.say(err != api.OK, err)
		}
		all = &seen{g.Name, g.Size > 0, nameOfType(g.Type), all}
	}
	return all
}

func (j *judge) functionNames() {
	taken := []string{"put", "get"}
	for _, g := range j.p.Globals {
		taken = append(taken, g.Name)
	}
	for i, f := range j.p.Funcs {
		j.at = len(j.p.Globals) + i
		j.say(slices.Contains(taken, f.Name), api.ErrName)
		taken = append(taken, f.Name)
	}
}

func (j *judge) function(all *seen) {
	var declared []string
	here, words := all, 0
	for _, p := range j.f.Params {
		j.say(slices.Contains(declared, p.Name), api.ErrName)
		declared = append(declared, p.Name)
		here = &seen{p.Name, false, nameOfType(p.Type), here}
		words += typeWords[slices.Index(typeNames, nameOfType(p.Type))]
	}
	j.statements(j.f.Body, here, &declared, false)
	for _, s := range declares(j.f.Body) {
		words += typeWords[slices.Index(typeNames, nameOfType(s.Type))]
	}
	j.say(words > 200, api.ErrMuch)
}

// declares has all declarations that stand in statements.
func declares(l []api.Stat) []api.Stat {
	var out []api.Stat
	for _, s := range l {
		switch s.Kind {
		case api.SDecl:
			out = append(out, s)
		case api.SIf:
			out = append(append(out, declares(s.Body)...), declares(s.Else)...)
		case api.SWhile, api.SFor, api.SBlock:
			out = append(out, declares(s.Body)...)
		}
	}
	return out
}

func (j *judge) statements(l []api.Stat, here *seen, declared *[]string, loop bool) {
	for _, s := range l {
		j.statement(s, here, declared, loop)
		if s.Kind == api.SDecl {
			j.say(slices.Contains(*declared, s.Name), api.ErrName)
			*declared = append(*declared, s.Name)
			here = &seen{s.Name, false, nameOfType(s.Type), here}
		}
	}
}

func (j *judge) statement(s api.Stat, here *seen, declared *[]string, loop bool) {
	j.say(s.Kind == api.SReturn && s.Has == (j.f.Result.Bits == 0), api.ErrType)
	j.say((s.Kind == api.SBreak || s.Kind == api.SContinue) && !loop, api.ErrFit)
	if s.Kind == api.SFor {
		j.statements(s.Init, here, declared, loop)
	}
	if s.Kind == api.SSet {
		if s.Has {
			j.must(s.I, here)
		}
		j.named(s.Name, s.Has, here)
	}
	hasX := s.Has
	switch s.Kind {
	case api.SSet, api.SIf, api.SWhile:
		hasX = true
	case api.SExpr:
		j.expr(s.X, here)
		return
	case api.SNone, api.SBlock, api.SBreak, api.SContinue:
		hasX = false
	}
	if hasX {
		j.must(s.X, here)
	}
	switch s.Kind {
	case api.SIf:
		j.statements(s.Body, here, declared, loop)
		j.statements(s.Else, here, declared, loop)
	case api.SWhile:
		j.statements(s.Body, here, declared, true)
	case api.SFor:
		j.statements(s.Step, here, declared, loop)
		j.statements(s.Body, here, declared, true)
	case api.SBlock:
		j.statements(s.Body, here, declared, loop)
	}
}

func (j *judge) named(name string, array bool, here *seen) string {
	s := here.find(name)
	j.say(s == nil, api.ErrName)
	if s == nil {
		return "i16"
	}
	j.say(s.array != array, api.ErrType)
	return s.is
}

func (j *judge) must(x api.Expr, here *seen) string {
	is := j.expr(x, here)
	j.say(is == "void", api.ErrType)
	if is == "void" {
		return "i16"
	}
	return is
}

func (j *judge) expr(x api.Expr, here *seen) string {
	if x.Kind == api.CCall {
		return j.call(x, here)
	}
	var kids []string
	for _, k := range x.Kids {
		kids = append(kids, j.must(k, here))
	}
	switch x.Kind {
	case api.CNum, api.CCast:
		return nameOfType(x.Type)
	case api.CVar, api.CAt:
		return j.named(x.Name, x.Kind == api.CAt, here)
	case api.CNeg, api.CNot, api.CShl, api.CShr:
		return promotedName(kids[0])
	case api.CMul, api.CDiv, api.CRem, api.CAdd, api.CSub, api.CAnd, api.CXor, api.COr:
		return commonName(kids[0], kids[1])
	}
	return "i16"
}

func (j *judge) call(x api.Expr, here *seen) string {
	takes, tells := -1, "i16"
	switch x.Name {
	case "put":
		takes, tells = 1, "void"
	case "get":
		takes = 0
	}
	for _, f := range j.p.Funcs {
		if f.Name == x.Name {
			takes, tells = len(f.Params), nameOfType(f.Result)
		}
	}
	j.say(takes < 0, api.ErrName)
	j.say(takes != len(x.Kids), api.ErrMany)
	for _, k := range x.Kids {
		j.must(k, here)
	}
	return tells
}

// maker makes programs at random that are mostly right: one time in slip it takes something else than what would fit.
type maker struct {
	*rand.Rand
	slip   int
	p      api.Program
	here   *seen
	free   []string
	result api.Type
	loops  int
}

var pool = []string{"a", "b", "c", "d", "e", "f", "g", "h", "i", "j", "k", "l", "m", "n", "put", "get", "main", "f0", "f1", "f2", "v0", "v1", "v2", "v3"}

func (m *maker) slips() bool { return m.Intn(m.slip) == 0 }

func (m *maker) anyName() string { return pool[m.Intn(len(pool))] }

func (m *maker) anyType() api.Type { return typeOfName(typeNames[m.Intn(8)]) }

// variables are the names of those that are seen, of arrays or of others.
func (m *maker) variables(array bool) []string {
	var l []string
	for s := m.here; s != nil; s = s.more {
		if s.array == array && m.here.find(s.name) == s {
			l = append(l, s.name)
		}
	}
	return l
}

func (m *maker) variable(array bool) string {
	l := m.variables(array)
	if m.slips() || len(l) == 0 {
		return m.anyName()
	}
	return l[m.Intn(len(l))]
}

func (m *maker) has(array bool) bool { return len(m.variables(array)) > 0 || m.slips() }

// call is one of a function that tells something, or nothing, if it may.
func (m *maker) call(deep int, tells bool) api.Expr {
	var l []api.Expr
	add := func(s string, result api.Type, takes int) {
		if tells == (result != api.Type{}) || m.slips() {
			x := call(s)
			for range takes {
				x.Kids = append(x.Kids, m.expr(deep-1))
			}
			l = append(l, x)
		}
	}
	add("put", api.Type{}, 1)
	add("get", i16t, 0)
	for _, f := range m.p.Funcs {
		add(f.Name, f.Result, len(f.Params))
	}
	x := l[m.Intn(len(l))]
	if m.slips() {
		x.Kids = append(x.Kids, num(1))
	}
	if m.slips() {
		x.Name = m.anyName()
	}
	return x
}

func (m *maker) expr(deep int) api.Expr {
	k := m.Intn(12)
	switch {
	case deep <= 0 || k < 2:
		return num(uint64(m.Intn(5)))
	case k < 5 && m.has(false):
		return name(m.variable(false))
	case k == 5 && m.has(true):
		return at(m.variable(true), m.expr(deep-1))
	case k == 6:
		return m.call(deep-1, !m.slips())
	case k == 7:
		return cast(m.anyType(), m.expr(deep-1))
	case k == 8:
		return one(api.CNeg+m.Intn(3), m.expr(deep-1))
	}
	return two(api.CMul+m.Intn(18), m.expr(deep-1), m.expr(deep-1))
}

func (m *maker) set() api.Stat {
	s := api.Stat{Kind: api.SSet, X: m.expr(3)}
	switch {
	case m.Intn(2) == 0 && m.has(true):
		s.Has, s.Name, s.I = true, m.variable(true), m.expr(2)
	case m.has(false):
		s.Name = m.variable(false)
	default:
		return expr(s.X)
	}
	if m.slips() {
		s.Has, s.I = !s.Has, num(1)
	}
	return s
}

func (m *maker) perhaps() []api.Stat {
	switch m.Intn(4) {
	case 0:
		return list(m.set())
	case 1:
		return list(expr(m.call(2, m.Intn(2) == 0)))
	}
	return nil
}

// block makes statements, and forgets behind them what they declared.
func (m *maker) block(deep int) []api.Stat {
	ahead := m.here
	defer func() { m.here = ahead }()
	var out []api.Stat
	for range m.Intn(4) {
		out = append(out, m.stat(deep))
	}
	return out
}

func (m *maker) loop(deep int) []api.Stat {
	m.loops++
	defer func() { m.loops-- }()
	return m.block(deep)
}

func (m *maker) declaration() api.Stat {
	s := decl(m.anyType(), m.anyName())
	if len(m.free) > 0 && !m.slips() {
		s.Name, m.free = m.free[0], m.free[1:]
	}
	if s.Has = m.Intn(2) == 0; s.Has {
		s.X = m.expr(3)
	}
	m.here = &seen{s.Name, false, nameOfType(s.Type), m.here}
	return s
}

func (m *maker) stat(deep int) api.Stat {
	kinds := 12
	if deep == 0 {
		kinds = 7
	}
	switch m.Intn(kinds) {
	case 0, 1:
		return m.declaration()
	case 2, 3:
		return m.set()
	case 4:
		return expr(m.call(3, m.Intn(2) == 0))
	case 5:
		s := api.Stat{Kind: api.SReturn, Has: (m.result != api.Type{}) != m.slips()}
		if s.Has {
			s.X = m.expr(3)
		}
		return s
	case 6:
		if m.loops > 0 || m.slips() {
			return api.Stat{Kind: api.SBreak + m.Intn(2)}
		}
		return none()
	case 7:
		return api.Stat{Kind: api.SIf, X: m.expr(3), Body: m.block(deep - 1), Else: m.block(deep - 1)}
	case 8:
		return api.Stat{Kind: api.SWhile, X: m.expr(3), Body: m.loop(deep - 1)}
	case 9, 10:
		s := api.Stat{Kind: api.SFor, Init: m.perhaps(), Step: m.perhaps(), Has: m.Intn(2) == 0}
		if s.Has {
			s.X = m.expr(3)
		}
		s.Body = m.loop(deep - 1)
		return s
	}
	return api.Stat{Kind: api.SBlock, Body: m.block(deep - 1)}
}

func (m *maker) global(i int) api.Global {
	g := api.Global{Type: m.anyType(), Name: fmt.Sprint("v", i)}
	if m.slips() {
		g.Name = m.anyName()
	}
	if m.Intn(2) == 0 {
		g.Size = 1 + m.Intn(5)
		if m.slips() {
			g.Size = 1999 + m.Intn(6000)
		}
	}
	for range m.Intn(max(1, g.Size) + 1) {
		x := num(uint64(m.Intn(100)))
		if m.slips() {
			x = anyConst(m.Rand, 3)
		}
		g.Init = append(g.Init, x)
	}
	return g
}

func (m *maker) program() api.Program {
	m.p = api.Program{}
	for i := range m.Intn(4) {
		m.p.Globals = append(m.p.Globals, m.global(i))
	}
	names := []string{"f0", "main", "f1"}[:2+m.Intn(2)]
	for _, s := range names {
		f := api.Func{Name: s}
		if m.Intn(2) == 0 {
			f.Result = m.anyType()
		}
		if s != "main" || m.slips() {
			for i := range m.Intn(4) {
				f.Params = append(f.Params, api.Param{Type: m.anyType(), Name: pool[(m.Intn(3)+3*i)%len(pool)]})
			}
		}
		if m.slips() {
			f.Name = m.anyName()
		}
		if len(f.Params) > 1 && m.slips() {
			f.Params[1].Name = f.Params[0].Name
		}
		m.p.Funcs = append(m.p.Funcs, f)
	}
	for i := range m.p.Funcs {
		m.body(&m.p.Funcs[i])
	}
	return m.p
}

func (m *maker) body(f *api.Func) {
	m.here, m.loops, m.result = nil, 0, f.Result
	for _, g := range m.p.Globals {
		m.here = &seen{g.Name, g.Size > 0, nameOfType(g.Type), m.here}
	}
	m.free = nil
	for _, k := range m.Perm(len(pool)) {
		if !slices.ContainsFunc(f.Params, func(p api.Param) bool { return p.Name == pool[k] }) {
			m.free = append(m.free, pool[k])
		}
	}
	for _, p := range f.Params {
		m.here = &seen{p.Name, false, nameOfType(p.Type), m.here}
	}
	f.Body = m.block(3)
	if m.slips() && m.slips() {
		for k := range 60 {
			f.Body = append(f.Body, decl(m.anyType(), fmt.Sprint("more", k)))
		}
	}
}

// TestProgramsAtRandom holds Check against the judge.
func TestProgramsAtRandom(t *testing.T) {
	came := map[api.Errno]int{}
	for seed := range int64(30000) {
		m := &maker{Rand: rand.New(rand.NewSource(seed)), slip: []int{8, 40, 200, 1 << 30}[seed%4]}
		p := m.program()
		want := judged(p)
		answers(t, p, want.Err, want.At)
		came[want.Err]++
		if m.slip == 1<<30 && want.Err != api.OK {
			t.Errorf("the maker makes something wrong, %v:\n%s", want, told(p))
		}
		if t.Failed() {
			return
		}
	}
	for _, err := range []api.Errno{api.OK, api.ErrMuch, api.ErrMany, api.ErrNone, api.ErrName, api.ErrFit, api.ErrType, api.ErrZero} {
		if came[err] < 20 {
			t.Errorf("the programs make %d only %d times", err, came[err])
		}
	}
}
