package source

import "pairlegal/api"

// operator is a sign between two kids; of two signs the one of more weight takes its kids first.
type operator struct {
	sign   string
	kind   int
	weight int
}

// The weakest weight of an operator, and one that is above all of them.
const (
	weakest   = 1
	strongest = 11
)

var operators = [...]operator{
	{"||", api.CLor, weakest},
	{"&&", api.CLand, 2},
	{"|", api.COr, 3},
	{"^", api.CXor, 4},
	{"&", api.CAnd, 5},
	{"==", api.CEq, 6}, {"!=", api.CNe, 6},
	{"<", api.CLt, 7}, {"<=", api.CLe, 7}, {">", api.CGt, 7}, {">=", api.CGe, 7},
	{"<<", api.CShl, 8}, {">>", api.CShr, 8},
	{"+", api.CAdd, 9}, {"-", api.CSub, 9},
	{"*", api.CMul, 10}, {"/", api.CDiv, 10}, {"%", api.CRem, 10},
}

// operatorsBySign is for reading.
func operatorsBySign() map[string]operator {
	out := make(map[string]operator, len(operators))
	for _, o := range operators {
		out[o.sign] = o
	}
	return out
}

// operatorsByKind is for writing.
func operatorsByKind() map[int]operator {
	out := make(map[int]operator, len(operators))
	for _, o := range operators {
		out[o.kind] = o
	}
	return out
}

// aheadKind answers the kind of a sign that stands ahead of its one kid; 0, if it is no such sign.
func aheadKind(sign string) int {
	switch sign {
	case "-":
		return api.CNeg
	case "~":
		return api.CNot
	case "!":
		return api.CLog
	}
	return 0
}
