package shelf

import (
	"strings"
	"testing"

	"pairlegal/api"
)

// row is what a program must tell of what comes in, by hand, and how many bytes of it must come in (all but so many are left).
type row struct {
	name, in, told string
	left           int
}

// byHand are answers that are known, or that a hand can reckon.
func byHand() []row {
	const most, beyond = "18446744073709551615", "18446744073709551616"
	a64, a200, nine40 := many("a", 64), many("a", 200), many("9", 40)
	return []row{
		{"cat", "", "", 0}, {"cat", "Hello\n\x00\xff", "Hello\n\x00\xff", 0},
		{"upper", "", "", 0}, {"upper", "az{`AZ@[ \xe1", "AZ{`AZ@[ \xe1", 0},
		{"rot13", "", "", 0}, {"rot13", "Hello, amnz`{", "Hryyb, nzam`{", 0},
		{"hex", "", "", 0}, {"hex", "\x00\x09\x0a\x0f\x10\x99\x9f\xa0\xff", "00090a0f10999fa0ff", 0},
		{"reverse", "abc", "cba", 0}, {"reverse", "\x00", "\x00", 0}, {"reverse", "b" + many("a", 199), many("a", 199) + "b", 0}, {"reverse", "b" + many("a", 199) + "c", many("a", 199) + "b", 0}, {"reverse", "b" + many("a", 199) + "cd", many("a", 199) + "b", 1},
		{"sort", "hello", "ehllo", 0}, {"sort", "\xff\x00\x80\x7f\x00", "\x00\x00\x7f\x80\xff", 0}, {"sort", a64[:63] + "A", "A" + a64[:63], 0}, {"sort", a64 + "A", a64, 0}, {"sort", a64 + "ABC", a64, 2},
		{"count", "", "0\n", 0}, {"count", "a\x00\n", "3\n", 0}, {"count", many("xyz", 3333), "9999\n", 0},
		{"ones", "", "0\n", 0}, {"ones", "\xff\x01\x00\x80U", "14\n", 0},
		{"crc", "", "65535\n", 0}, {"crc", "123456789", "10673\n", 0}, {"crc", "A", "47381\n", 0},
		{"adler", "", "1\n", 0}, {"adler", "Wikipedia", "300286872\n", 0}, {"adler", "abc", "38600999\n", 0},
		{"sum", "", "0\n", 0}, {"sum", "1,2,3", "6\n", 0}, {"sum", "a12b-30", "42\n", 0}, {"sum", "1 " + most, "0\n", 0}, {"sum", beyond, "0\n", 0}, {"sum", most + "\n", most + "\n", 0},
		{"gcd", "12 18 ", "6\n", 0}, {"gcd", "1071,462", "21\n", 0}, {"gcd", "0 7", "7\n", 0}, {"gcd", "7 ", "7\n", 0}, {"gcd", "17 5 3", "1\n", 1}, {"gcd", most + " 5 ", "5\n", 0}, {"gcd", beyond + " 5 ", "5\n", 0}, {"gcd", "x9 6", "9\n", 1},
		{"power", "2 10", "1024\n", 0}, {"power", "2 63", "9223372036854775808\n", 0}, {"power", "2 64", "0\n", 0}, {"power", "3 40", "12157665459056928801\n", 0}, {"power", "3 41", "18026252303461234787\n", 0}, {"power", "0 0", "1\n", 0}, {"power", "", "1\n", 0}, {"power", most + " 2", "1\n", 0}, {"power", "1 " + most, "1\n", 0},
		{"fibonacci", "0", "0\n", 0}, {"fibonacci", "1", "1\n", 0}, {"fibonacci", "10 ", "55\n", 0}, {"fibonacci", "93", "12200160415121876738\n", 0}, {"fibonacci", "94", "1293530146158671551\n", 0},
		{"factorial", "0", "1\n", 0}, {"factorial", "5", "120\n", 0}, {"factorial", "20", "2432902008176640000\n", 0}, {"factorial", "21", "14197454024290336768\n", 0}, {"factorial", beyond, "1\n", 0},
		{"collatz", "1", "0\n", 0}, {"collatz", "0", "0\n", 0}, {"collatz", "27", "111\n", 0}, {"collatz", "97 ", "118\n", 0}, {"collatz", "837799", "524\n", 0},
		{"root", "0", "0\n", 0}, {"root", "99", "9\n", 0}, {"root", "100", "10\n", 0}, {"root", most, "4294967295\n", 0}, {"root", "18446744065119617024", "4294967294\n", 0}, {"root", "18446744065119617025", "4294967295\n", 0}, {"root", beyond, "0\n", 0},
		{"primes", "1", "", 0}, {"primes", "2", "2\n", 0}, {"primes", "12 ", "2\n3\n5\n7\n11\n", 0}, {"primes", "13", "2\n3\n5\n7\n11\n13\n", 0},
		{"queens", "0", "1\n", 0}, {"queens", "1 ", "1\n", 0}, {"queens", "2 ", "0\n", 0}, {"queens", "3", "0\n", 0}, {"queens", "4", "2\n", 0}, {"queens", "5 ", "10\n", 0}, {"queens", "6", "4\n", 0},
		{"hanoi", "0", "", 0}, {"hanoi", "1", "AC\n", 0}, {"hanoi", "2 ", "AB\nAC\nBC\n", 0}, {"hanoi", "3", "AC\nAB\nCB\nAC\nBA\nBC\nAC\n", 0},
		{"binary", "0", "0\n", 0}, {"binary", "1", "1\n", 0}, {"binary", "10 ", "1010\n", 0}, {"binary", most, many("1", 64) + "\n", 0}, {"binary", beyond, "0\n", 0}, {"binary", "9223372036854775808", "1" + many("0", 63) + "\n", 0},
		{"lcm", "4 6 ", "12\n", 0}, {"lcm", "21\n6\n", "42\n", 0}, {"lcm", "0 5", "0\n", 0}, {"lcm", "", "0\n", 0}, {"lcm", "5 7 9", "35\n", 1}, {"lcm", "4294967296 4294967297", "4294967296\n", 0},
		{"modpow", "4 13 497", "445\n", 0}, {"modpow", "2 10 1000 ", "24\n", 0}, {"modpow", "5 3 1", "0\n", 0}, {"modpow", "0 0 2", "1\n", 0}, {"modpow", "2 32 4294967295", "1\n", 0}, {"modpow", "3 4 4294967303", "4\n", 0}, {"modpow", "3 4 4294967297", "0\n", 0}, {"modpow", "4294967294 2 4294967295", "1\n", 0},
		{"ackermann", "0 0", "1\n", 0}, {"ackermann", "1 1", "3\n", 0}, {"ackermann", "2 3 ", "9\n", 0}, {"ackermann", "3 2", "29\n", 0}, {"ackermann", "4 0", "13\n", 0}, {"ackermann", "1 57", "59\n", 0}, {"ackermann", "2 27", "57\n", 0}, {"ackermann", "0 " + most, "0\n", 0},
		{"aliquot", "0", "0\n", 0}, {"aliquot", "1", "0\n", 0}, {"aliquot", "12 ", "16\n", 0}, {"aliquot", "28", "28\n", 0}, {"aliquot", "220", "284\n", 0}, {"aliquot", "284", "220\n", 0}, {"aliquot", "4294967296", "0\n", 0}, {"aliquot", "4294967302", "6\n", 0}, {"aliquot", "13", "1\n", 0},
		{"words", "", "0\n", 0}, {"words", " a  bc\td\n", "3\n", 0}, {"words", "a", "1\n", 0}, {"words", "\x00!\x20\"\x1f\xff\x7f", "3\n", 0},
		{"digits", "1a2b99", "21\n", 0}, {"digits", "/0:", "0\n", 0}, {"digits", many("9", 1000), "9000\n", 0},
		{"base64", "f", "Zg==", 0}, {"base64", "fo", "Zm8=", 0}, {"base64", "foo", "Zm9v", 0}, {"base64", "foobar", "Zm9vYmFy", 0}, {"base64", "\xfb\xff\xbf", "+/+/", 0}, {"base64", "\x00\x10\x83\x10\x51\x87", "ABCDEFGH", 0},
		{"luhn", "", "1\n", 0}, {"luhn", "79927398713", "1\n", 0}, {"luhn", "79927398710", "0\n", 0}, {"luhn", "4539 1488 0343 6467", "1\n", 0}, {"luhn", "8273 1232 7352 0569", "0\n", 0}, {"luhn", nine40, "1\n", 0}, {"luhn", nine40[1:], "0\n", 0}, {"luhn", nine40 + "1", "1\n", 0}, {"luhn", nine40[1:] + "8", "0\n", 0},
		{"mirror", "", "1\n", 0}, {"mirror", "abcba", "1\n", 0}, {"mirror", "abccba", "1\n", 0}, {"mirror", "abca", "0\n", 0}, {"mirror", a200, "1\n", 0}, {"mirror", a200 + "b", "1\n", 0}, {"mirror", a200 + "bc", "1\n", 1}, {"mirror", a200[1:] + "b", "0\n", 0}, {"mirror", "b" + a200[1:] + "b", "0\n", 0},
	}
}

// TestByHand: what programs mean and what their words do is what a hand has reckoned; and so is what the other tests reckon.
func TestByHand(t *testing.T) {
	all, seen := trials(), map[string]int{}
	for _, r := range byHand() {
		must := tells(r.in[:len(r.in)-r.left], r.told)
		taken(t, r.name).try(t, r.in, must, near)
		if got := all[r.name].must(r.in); got != must {
			t.Errorf("%s: %s is reckoned, not %s, of %.300q", r.name, briefAnswer(got), briefAnswer(must), r.in)
		}
		seen[r.name]++
	}
	for _, name := range chapterNames() {
		if seen[name] < 2 {
			t.Errorf("%s has %d rows", name, seen[name])
		}
	}
}

// TestTrapsByHand: where a program can't tell anything.
func TestTrapsByHand(t *testing.T) {
	all := trials()
	for _, r := range []struct {
		name, in string
		trap     int
	}{
		{"factorial", "60", api.TrapCalls}, {"factorial", "61 ", api.TrapCalls}, {"factorial", "18446744073709551615", api.TrapCalls},
		{"modpow", "", api.TrapZero}, {"modpow", "2 3 0", api.TrapZero}, {"modpow", "2 3 4294967296", api.TrapZero}, {"modpow", "2 3", api.TrapZero}, {"modpow", "2 3  5", api.TrapZero},
		{"queens", "9", api.TrapPlace}, {"queens", "12 ", api.TrapPlace}, {"queens", "32767", api.TrapPlace},
		{"hanoi", "59", api.TrapCalls}, {"hanoi", "60 ", api.TrapCalls}, {"hanoi", "65535", api.TrapCalls},
		{"ackermann", "1 58", api.TrapCalls}, {"ackermann", "2 28", api.TrapCalls}, {"ackermann", "3 3", api.TrapCalls}, {"ackermann", "4 1", api.TrapCalls}, {"ackermann", "5 ", api.TrapCalls},
	} {
		_, read := numbers(r.in, map[string]int{"modpow": 3, "ackermann": 2, "factorial": 1, "queens": 1, "hanoi": 1}[r.name])
		must := answer{how: api.RanTrap, trap: r.trap, read: read}
		taken(t, r.name).try(t, r.in, must, near)
		if got := all[r.name].must(r.in); got != must {
			t.Errorf("%s: %s is reckoned, not %s, of %q", r.name, briefAnswer(got), briefAnswer(must), r.in)
		}
	}
}

// TestLastFactorial: of 59 the calls are just not too many.
func TestLastFactorial(t *testing.T) {
	s := taken(t, "factorial")
	// 59! has 54 times the factor 2, so that just ten of the upper bits are left.
	in := "59"
	must := trials()["factorial"].must(in)
	if must.how != api.RanHalt || must.told == "0\n" {
		t.Errorf("%s is reckoned", briefAnswer(must))
	}
	s.try(t, in, must, near)
}

// TestQueensOfTheWholeBoard: it takes too many ticks for a run that has a bound on them, but words have time.
func TestQueensOfTheWholeBoard(t *testing.T) {
	s := taken(t, "queens")
	for in, told := range map[string]string{"7": "40\n", "8": "92\n"} {
		s.try(t, in, tells(in, told), far)
	}
}

// TestAllPrimes: up to 199, and of more none is told.
func TestAllPrimes(t *testing.T) {
	const all = "2 3 5 7 11 13 17 19 23 29 31 37 41 43 47 53 59 61 67 71 73 79 83 89 97 101 103 107 109 113 127 131 137 139 149 151 157 163 167 173 179 181 191 193 197 "
	s, lines := taken(t, "primes"), strings.ReplaceAll(all, " ", "\n")
	for _, in := range []string{"199", "200", "201", "211", "1000 ", "65536", "4294967297", "18446744073709551615"} {
		s.try(t, in, tells(in, lines+"199\n"), near)
	}
	for _, in := range []string{"197", "198 "} {
		s.try(t, in, tells(in, lines), near)
	}
	s.try(t, "18446744073709551616", tells("18446744073709551616", ""), near)
}
