package shelf

import (
	"fmt"
	"math/big"

	"pairlegal/api"
)

// N2: what must come of a program, reckoned in Go.

// answer is how a run must end, what it must tell, and how many bytes it must take in.
type answer struct {
	how, trap int
	told      string
	read      int
}

// tells is the answer of a program that comes to its end, and has taken all in.
func tells(in, told string) answer { return answer{how: api.RanHalt, told: told, read: len(in)} }

// line is a number as programs tell it.
func line(n any) string { return fmt.Sprintf("%d\n", n) }

// yes is a line that says whether something holds.
func yes(holds bool) string {
	if holds {
		return "1\n"
	}
	return "0\n"
}

// big2 is 2 to a number.
func big2(n uint) *big.Int { return new(big.Int).Lsh(big.NewInt(1), n) }

// lower is a number modulo 2 to a width.
func lower(n *big.Int, width uint) *big.Int { return new(big.Int).Mod(n, big2(width)) }

// signed is what the lower 16 bits of a number mean with a sign.
func signed(n *big.Int) int { return int(int16(lower(n, 16).Uint64())) }

// numbers are the first so many numbers in digits, modulo 2^64, and how many bytes come in for them: a byte behind the digits comes in, too.
func numbers(in string, many int) (l []*big.Int, read int) {
	for range many {
		at := read
		for at < len(in) && '0' <= in[at] && in[at] <= '9' {
			at++
		}
		n, _ := new(big.Int).SetString("0"+in[read:at], 10)
		l = append(l, lower(n, 64))
		read = min(at+1, len(in))
	}
	return l, read
}

// ofNumbers makes a way to reckon with so many numbers one to reckon with what comes in.
func ofNumbers(many int, reckon func(l []*big.Int) answer) func(in string) answer {
	return func(in string) answer {
		l, read := numbers(in, many)
		a := reckon(l)
		a.read = read
		return a
	}
}

// lineOfNumbers: so, of programs that always tell a line with one number modulo 2^64.
func lineOfNumbers(many int, reckon func(l []*big.Int) *big.Int) func(in string) answer {
	return ofNumbers(many, func(l []*big.Int) answer { return tells("", line(lower(reckon(l), 64))) })
}
