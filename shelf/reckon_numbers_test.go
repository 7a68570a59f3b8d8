package shelf

import (
	"math/big"
	"strings"

	"pairlegal/api"
)

// What programs must tell of numbers.

func traps(trap int) answer { return answer{how: api.RanTrap, trap: trap} }

func gcdOf(l []*big.Int) *big.Int { return new(big.Int).GCD(nil, nil, l[0], l[1]) }

func lcmOf(l []*big.Int) *big.Int {
	both := gcdOf(l)
	if both.Sign() == 0 {
		return both
	}
	all := new(big.Int).Mul(l[0], l[1])
	return all.Div(all, both)
}

func powerOf(l []*big.Int) *big.Int { return new(big.Int).Exp(l[0], l[1], big2(64)) }

func modpowOf(l []*big.Int) answer {
	by := lower(l[2], 32)
	if by.Sign() == 0 {
		return traps(api.TrapZero)
	}
	n := new(big.Int).Exp(l[0], l[1], by)
	return tells("", line(n.Mod(n, by)))
}

// fibonacciOf goes by the bits of the number: F(2k) is F(k) (2 F(k + 1) - F(k)), F(2k + 1) is F(k)^2 + F(k + 1)^2.
func fibonacciOf(l []*big.Int) *big.Int {
	a, b := big.NewInt(0), big.NewInt(1)
	for i := l[0].BitLen() - 1; i >= 0; i-- {
		even := new(big.Int).Lsh(b, 1)
		even.Mul(even.Sub(even, a), a)
		odd := new(big.Int).Mul(a, a)
		odd.Add(odd, new(big.Int).Mul(b, b))
		a, b = lower(even, 64), lower(odd, 64)
		if l[0].Bit(i) == 1 {
			a, b = b, lower(even.Add(a, b), 64)
		}
	}
	return a
}

// factorialOf: main is one of MaxCalls, so of n, which takes n calls, n may be one less.
func factorialOf(l []*big.Int) answer {
	if l[0].Cmp(big.NewInt(api.MaxCalls)) >= 0 {
		return traps(api.TrapCalls)
	}
	return tells("", line(lower(new(big.Int).MulRange(1, l[0].Int64()), 64)))
}

// collatzOf: as the program's numbers are, modulo 2^64.
func collatzOf(l []*big.Int) *big.Int {
	n, steps := l[0], int64(0)
	for n.Cmp(big.NewInt(1)) > 0 {
		if n.Bit(0) == 1 {
			n = new(big.Int).Mul(n, big.NewInt(3))
			n = lower(n.Add(n, big.NewInt(1)), 64)
		} else {
			n = new(big.Int).Rsh(n, 1)
		}
		steps++
	}
	return big.NewInt(steps)
}

func rootOf(l []*big.Int) *big.Int { return new(big.Int).Sqrt(l[0]) }

func primesOf(l []*big.Int) answer {
	var told strings.Builder
	for n := int64(2); n < 200 && l[0].Cmp(big.NewInt(n)) >= 0; n++ {
		if big.NewInt(n).ProbablyPrime(0) {
			told.WriteString(line(n))
		}
	}
	return tells("", told.String())
}

// queensOf: there is a board of eight rows; of more queens the ninth one stands beyond it, and below 0 there is no row that would be the last one.
func queensOf(l []*big.Int) answer {
	ways := []int{1, 1, 0, 0, 2, 10, 4, 40, 92}
	switch n := signed(l[0]); {
	case n < 0:
		return tells("", "0\n")
	case n < len(ways):
		return tells("", line(ways[n]))
	}
	return traps(api.TrapPlace)
}

// hanoiMoves are the first moves, each known by its number alone: the disc goes round the pegs, one way or the other.
func hanoiMoves(discs, most int) string {
	pegs := "ABC"
	if discs%2 == 0 {
		pegs = "ACB"
	}
	var told strings.Builder
	for i := 1; i <= most; i++ {
		told.WriteByte(pegs[(i&(i-1))%3])
		told.WriteByte(pegs[((i|(i-1))+1)%3])
		told.WriteByte('\n')
	}
	return told.String()
}

// hanoiOf: main and the call that moves no disc are open, too; below 0 no call is the last one. Of more than 16 discs there are just the first moves, which is more than any run comes to.
func hanoiOf(l []*big.Int) answer {
	n := signed(l[0])
	if n < 0 || n+2 > api.MaxCalls {
		return traps(api.TrapCalls)
	}
	return tells("", hanoiMoves(n, 1<<min(n, 16)-1))
}

func binaryOf(l []*big.Int) answer { return tells("", l[0].Text(2)+"\n") }

// ackermannOf has the number by what it is known to be of a first number below 4, and so how many calls are open at once.
func ackermannOf(l []*big.Int) answer {
	if l[0].Sign() == 0 {
		return tells("", line(lower(new(big.Int).Add(l[1], big.NewInt(1)), 64)))
	}
	if l[0].Cmp(big.NewInt(4)) > 0 || l[1].Cmp(big.NewInt(api.MaxCalls)) > 0 {
		return traps(api.TrapCalls)
	}
	n := int(l[1].Int64())
	tower, told, open := uint(n+3), 0, 0
	switch l[0].Int64() {
	case 1:
		told, open = n+2, n+2
	case 2:
		told, open = 2*n+3, 2*n+4
	case 3:
		if tower > 20 {
			return traps(api.TrapCalls)
		}
		told, open = 1<<tower-3, 1<<tower-1
	case 4:
		told, open = 13, 16 // of 0: that of 3 and 1, within one more
		if n > 0 {
			return traps(api.TrapCalls)
		}
	}
	if open+1 > api.MaxCalls {
		return traps(api.TrapCalls)
	}
	return tells("", line(told))
}

// aliquotOf adds what divides the number, and what it is divided into then.
func aliquotOf(l []*big.Int) *big.Int {
	n := lower(l[0], 32).Int64()
	if n == 0 {
		return big.NewInt(0)
	}
	sum := -n
	for d := int64(1); d*d <= n; d++ {
		if n%d == 0 {
			sum += d
			if d*d < n {
				sum += n / d
			}
		}
	}
	return big.NewInt(sum)
}
