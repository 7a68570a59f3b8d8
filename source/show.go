package source

import (
	"strconv"
	"strings"

	"pairlegal/api"
	"pairlegal/types"
)

// Show answers the text of a program.
func Show(p api.Program) (string, api.Errno) {
	if err := Wrong(p); err != api.OK {
		return "", err
	}
	w := writer{byKind: operatorsByKind()}
	for _, g := range p.Globals {
		w.global(g)
	}
	for _, f := range p.Funcs {
		w.function(f)
	}
	if w.Len() > api.MaxSource {
		return "", api.ErrMuch
	}
	return w.String(), api.OK
}

// writer is a builder of the text of a program with which nothing is wrong; it knows how deep it is.
type writer struct {
	strings.Builder
	byKind map[int]operator
	deep   int
}

func (w *writer) typed(t api.Type, name string) { w.WriteString(types.Name(t) + " " + name) }

func (w *writer) global(g api.Global) {
	w.typed(g.Type, g.Name)
	if g.Size > 0 {
		w.WriteString("[" + strconv.Itoa(g.Size) + "]")
	}
	if len(g.Init) > 0 {
		w.WriteString(" = ")
		w.numbers(g)
	}
	w.WriteString(";\n")
}

func (w *writer) numbers(g api.Global) {
	if g.Size > 0 {
		w.WriteByte('{')
		defer w.WriteByte('}')
	}
	w.expressions(g.Init)
}

func (w *writer) function(f api.Func) {
	w.typed(f.Result, f.Name)
	w.WriteByte('(')
	for i, p := range f.Params {
		w.comma(i)
		w.typed(p.Type, p.Name)
	}
	w.WriteString(") ")
	w.block(f.Body)
	w.WriteByte('\n')
}

// comma stands ahead of all parts of a list but the first one.
func (w *writer) comma(i int) {
	if i > 0 {
		w.WriteString(", ")
	}
}

func (w *writer) tabs() {
	for range w.deep {
		w.WriteByte('\t')
	}
}

// block leaves the line open behind it, since more may stand there.
func (w *writer) block(list []api.Stat) {
	w.WriteString("{\n")
	w.deep++
	defer w.close()
	for _, s := range list {
		w.tabs()
		w.statement(s)
		w.WriteByte('\n')
	}
}

func (w *writer) close() {
	w.deep--
	w.tabs()
	w.WriteByte('}')
}

// statement writes one without tabs ahead of it, and without the line feed behind it.
func (w *writer) statement(s api.Stat) {
	switch s.Kind {
	case api.SIf:
		w.asked("if (", s.X)
		w.block(s.Body)
		if len(s.Else) > 0 {
			w.WriteString(" else ")
			w.block(s.Else)
		}
	case api.SWhile:
		w.asked("while (", s.X)
		w.block(s.Body)
	case api.SFor:
		w.forAhead(s)
		w.block(s.Body)
	case api.SBlock:
		w.block(s.Body)
	default:
		w.closed(s)
		w.WriteByte(';')
	}
}

func (w *writer) asked(ahead string, x api.Expr) {
	w.WriteString(ahead)
	w.whole(x)
	w.WriteString(") ")
}

// forAhead writes what stands ahead of the body; a blank stands only ahead of what is there.
func (w *writer) forAhead(s api.Stat) {
	w.WriteString("for (")
	for _, x := range s.Init {
		w.closed(x)
	}
	w.WriteByte(';')
	if s.Has {
		w.WriteByte(' ')
		w.whole(s.X)
	}
	w.WriteByte(';')
	for _, x := range s.Step {
		w.WriteByte(' ')
		w.closed(x)
	}
	w.WriteString(") ")
}

// closed writes a statement that has a `;` behind it, without that one.
func (w *writer) closed(s api.Stat) {
	switch s.Kind {
	case api.SDecl:
		w.typed(s.Type, s.Name)
		w.perhaps(" = ", s)
	case api.SSet:
		w.set(s)
	case api.SExpr:
		w.whole(s.X)
	case api.SReturn:
		w.WriteString("return")
		w.perhaps(" ", s)
	case api.SBreak:
		w.WriteString("break")
	case api.SContinue:
		w.WriteString("continue")
	}
}

// perhaps writes X, if Has, and what stands ahead of it then.
func (w *writer) perhaps(ahead string, s api.Stat) {
	if s.Has {
		w.WriteString(ahead)
		w.whole(s.X)
	}
}

func (w *writer) set(s api.Stat) {
	w.WriteString(s.Name)
	if s.Has {
		w.place(s.I)
	}
	w.WriteString(" = ")
	w.whole(s.X)
}

func (w *writer) place(x api.Expr) {
	w.WriteByte('[')
	w.whole(x)
	w.WriteByte(']')
}

func (w *writer) expressions(list []api.Expr) {
	for i, x := range list {
		w.comma(i)
		w.whole(x)
	}
}

// whole writes an expression where any may stand.
func (w *writer) whole(x api.Expr) { w.expression(x, weakest) }

// expression writes one where an operator of less than that weight would not be taken as a whole, and so needs brackets.
func (w *writer) expression(x api.Expr, least int) {
	if o, two := w.byKind[x.Kind]; two {
		w.joined(o, x.Kids, least)
		return
	}
	switch x.Kind {
	case api.CNum:
		w.number(x)
	case api.CVar:
		w.WriteString(x.Name)
	case api.CAt:
		w.WriteString(x.Name)
		w.place(x.Kids[0])
	case api.CCall:
		w.WriteString(x.Name + "(")
		w.expressions(x.Kids)
		w.WriteByte(')')
	default:
		w.WriteString(headOf(x))
		w.expression(x.Kids[0], strongest)
	}
}

func (w *writer) joined(o operator, kids []api.Expr, least int) {
	if o.weight < least {
		w.WriteByte('(')
		defer w.WriteByte(')')
	}
	w.expression(kids[0], o.weight)
	w.WriteString(" " + o.sign + " ")
	w.expression(kids[1], o.weight+1)
}

func (w *writer) number(x api.Expr) {
	w.WriteString(strconv.FormatUint(x.N, 10))
	if !x.Type.Signed {
		w.WriteByte('u')
	}
}

// headOf answers what stands ahead of the one kid of an expression.
func headOf(x api.Expr) string {
	switch x.Kind {
	case api.CNeg:
		return "-"
	case api.CNot:
		return "~"
	case api.CLog:
		return "!"
	}
	return "(" + types.Name(x.Type) + ")"
}
