package source

import (
	"slices"
	"strings"
	"testing"

	"pairlegal/api"
)

// grammar is H3 and H4, rule by rule; NAME, NUMBER and TYPE are kinds of tokens, words in small letters and signs themselves. A rule without parts is "-".
const grammar = `
Program: - | Program Item
Item: TYPE NAME ; | TYPE NAME = Or ; | TYPE NAME [ NUMBER ] ; | TYPE NAME [ NUMBER ] = { } ; | TYPE NAME [ NUMBER ] = { Exprs } ;
Item: TYPE NAME ( ) Block | TYPE NAME ( Params ) Block | void NAME ( ) Block | void NAME ( Params ) Block
Params: TYPE NAME | Params , TYPE NAME
Exprs: Or | Exprs , Or
Block: { Stats }
Stats: - | Stats Stat
Stat: ; | Block | if ( Or ) Stat | if ( Or ) Stat else Stat | while ( Or ) Stat
Stat: for ( Done ; Asked ; Done ) Stat
Stat: return ; | return Or ; | break ; | continue ; | TYPE NAME ; | TYPE NAME = Or ; | Set ; | Or ;
Done: - | Set | Or
Asked: - | Or
Set: Or = Or
Or: And | Or || And
And: Bar | And && Bar
Bar: Hat | Bar | Hat
Hat: Amp | Hat ^ Amp
Amp: Eq | Amp & Eq
Eq: Less | Eq == Less | Eq != Less
Less: Shift | Less < Shift | Less <= Shift | Less > Shift | Less >= Shift
Shift: Sum | Shift << Sum | Shift >> Sum
Sum: Product | Sum + Product | Sum - Product
Product: Head | Product * Head | Product / Head | Product % Head
Head: Piece | - Head | ~ Head | ! Head | ( TYPE ) Head
Piece: NUMBER | ( Or ) | NAME | NAME [ Or ] | NAME ( ) | NAME ( Exprs )
`

type rule struct {
	left  string
	parts []string
}

// rules reads the grammar: ` | ` stands between two rules of one line, but for Bar's own.
func rules() []rule {
	var out []rule
	for _, line := range strings.Split(strings.TrimSpace(grammar), "\n") {
		left, rest, _ := strings.Cut(line, ": ")
		if left == "Bar" {
			out = append(out, rule{"Bar", []string{"Hat"}}, rule{"Bar", []string{"Bar", "|", "Hat"}})
			continue
		}
		for _, r := range strings.Split(rest, " | ") {
			parts := strings.Fields(r)
			if r == "-" {
				parts = nil
			}
			out = append(out, rule{left, parts})
		}
	}
	return out
}

// item is a rule of which some parts have been gone over, from a token on.
type item struct{ rule, done, from int }

// model tells by Earley's way where a row of tokens can't be gone on with: it knows nothing of how the program reads.
type model struct {
	rules  []rule
	byLeft map[string][]int
}

func newModel() *model {
	m := &model{rules: rules(), byLeft: map[string][]int{}}
	for i, r := range m.rules {
		m.byLeft[r.left] = append(m.byLeft[r.left], i)
	}
	return m
}

func (m *model) next(i item) string {
	if parts := m.rules[i.rule].parts; i.done < len(parts) {
		return parts[i.done]
	}
	return ""
}

// spread adds to the last set what its items ask for, and what they make whole.
func (m *model) spread(sets [][]item) {
	last := len(sets) - 1
	seen := map[item]bool{}
	for _, i := range sets[last] {
		seen[i] = true
	}
	add := func(i item) {
		if !seen[i] {
			seen[i] = true
			sets[last] = append(sets[last], i)
		}
	}
	for k := 0; k < len(sets[last]); k++ {
		i := sets[last][k]
		next := m.next(i)
		if next == "" {
			// What is whole without a token may be asked for later on in the same set.
			for again := true; again; {
				before := len(sets[last])
				for _, j := range sets[i.from] {
					if m.next(j) == m.rules[i.rule].left {
						add(item{j.rule, j.done + 1, j.from})
					}
				}
				again = len(sets[last]) > before && i.from == last
			}
			continue
		}
		for _, r := range m.byLeft[next] {
			add(item{r, 0, last})
			if len(m.rules[r].parts) == 0 {
				add(item{i.rule, i.done + 1, i.from})
			}
		}
	}
}

// fits tells whether a token is what a rule asks for.
func fits(part string, x api.Token) bool {
	switch part {
	case "NUMBER":
		return x.Kind == api.TokNumber
	case "TYPE":
		_, ok := typeWords()[x.Text]
		return ok
	case "NAME":
		return x.Kind == api.TokName && aName.MatchString(x.Text) && !slices.Contains(reserved, x.Text)
	}
	return x.Text == part
}

// fault is what Read must say of tokens, as far as the grammar goes.
func (m *model) fault(tokens []api.Token, end int) api.Fault {
	sets := [][]item{nil}
	for _, r := range m.byLeft["Program"] {
		sets[0] = append(sets[0], item{r, 0, 0})
	}
	m.spread(sets)
	for at, x := range tokens {
		var next []item
		asksName := false
		for _, i := range sets[at] {
			part := m.next(i)
			asksName = asksName || part == "NAME"
			if part != "" && m.byLeft[part] == nil && fits(part, x) {
				next = append(next, item{i.rule, i.done + 1, i.from})
			}
		}
		if next == nil && asksName && x.Kind == api.TokName {
			return api.Fault{Err: api.ErrName, At: x.At}
		}
		if next == nil {
			return api.Fault{Err: api.ErrForm, At: x.At}
		}
		sets = append(sets, next)
		m.spread(sets)
	}
	for _, i := range sets[len(sets)-1] {
		if i.from == 0 && m.next(i) == "" && m.rules[i.rule].left == "Program" {
			return api.Fault{}
		}
	}
	return api.Fault{Err: api.ErrForm, At: end}
}

// holdsGrammar holds what Read says of a row of words against the model. ErrFit, ErrRange and ErrMany are no matter of the grammar: what is met ahead of them is.
func holdsGrammar(t *testing.T, m *model, words []string) {
	t.Helper()
	text := strings.Join(words, " ")
	tokens, f := Tokens(text)
	if f != (api.Fault{}) {
		t.Fatalf("%q: %v comes", text, f)
	}
	_, got := Read(text)
	want := m.fault(tokens, len(text))
	switch got.Err {
	case api.ErrFit, api.ErrRange, api.ErrMany:
		if want != (api.Fault{}) && want.At < got.At {
			t.Errorf("Read(%q): %v comes, not %v", text, got, want)
		}
	default:
		if got != want {
			t.Errorf("Read(%q): %v comes, not %v", text, got, want)
		}
	}
}

func wordsOf(text string) []string {
	tokens, _ := Tokens(text)
	var out []string
	for _, x := range tokens {
		s := x.Text
		if x.Kind == api.TokNumber && !x.Type.Signed {
			s += "u"
		}
		out = append(out, s)
	}
	return out
}

var grammarSamples = []string{
	"i16 x ; u8 y = - 1 ; u8 a [ 9 ] = { 1 , x } ; u8 e [ 9 ] = { } ;",
	"void f ( i16 a , u8 b ) { ; { } return ; } i8 g ( ) { return 1 ; }",
	"void f ( ) { if ( x ) y ; else { break ; } while ( 1 ) continue ; }",
	"void f ( ) { for ( x = 1 ; x ; f ( ) ) ; for ( ; ; ) { } }",
	"void f ( ) { i16 x ; i16 y = 1 ; x = y ; a [ 1 ] = ( 2 ) ; f ( 1 , 2 ) ; }",
	"i16 x = ( u8 ) ( a [ 1 ] + f ( ) ) * ! b || c == ~ d ;",
}

var grammarWords = []string{"i16", "void", "x", "if", "else", "while", "for", "return", "break", "1", "2u", "(", ")", "{", "}", "[", "]", ",", ";", "=", "-", "+", "==", "!", "~", "&&", "<"}

// TestTheGrammar changes each token of programs, takes it away, and lays another one ahead of it.
func TestTheGrammar(t *testing.T) {
	m := newModel()
	for _, text := range grammarSamples {
		words := wordsOf(text)
		holdsGrammar(t, m, words)
		for i := range words {
			holdsGrammar(t, m, words[:i])
			holdsGrammar(t, m, slices.Delete(slices.Clone(words), i, i+1))
			for _, w := range grammarWords {
				holdsGrammar(t, m, slices.Insert(slices.Clone(words), i, w))
				changed := slices.Clone(words)
				changed[i] = w
				holdsGrammar(t, m, changed)
			}
		}
	}
}

// TestAllShortPrograms has all rows of a few words behind some beginnings.
func TestAllShortPrograms(t *testing.T) {
	m := newModel()
	try := func(ahead string, words string, most int) {
		start := strings.Fields(ahead)
		var more func(row []string, left int)
		more = func(row []string, left int) {
			holdsGrammar(t, m, row)
			if left == 0 {
				return
			}
			for _, w := range strings.Fields(words) {
				more(append(slices.Clone(row), w), left-1)
			}
		}
		more(start, most)
	}
	try("", "i16 void x if 1 ( ) { } [ ] = ; ,", 3)
	try("i16 x", "i16 x 1 ( ) { } [ ] = ; ,", 3)
	try("void f (", "i16 x ) { } , 1", 4)
	try("void f ( ) {", "i16 x 1 ( = ; } if else return {", 3)
	try("void f ( ) { if ( 1 )", "; { } else x if", 4)
	try("void f ( ) { for (", "; x = ) 1", 5)
	try("i16 x =", "x 1 ( ) [ ] , - i8", 4)
	try("i16 x = 1", "+ - ! == ( ) x ;", 4)
}

func TestTheModelKnowsSample(t *testing.T) {
	m := newModel()
	tokens, _ := Tokens(sample)
	if f := m.fault(tokens, len(sample)); f != (api.Fault{}) {
		t.Errorf("%v comes", f)
	}
	if _, f := Read(sample); f != (api.Fault{}) {
		t.Errorf("%v comes", f)
	}
}
