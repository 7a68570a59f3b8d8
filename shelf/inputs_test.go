package shelf

import (
	"fmt"
	"math/big"
	"math/rand"
	"strings"
)

// N2: what comes in.

// many is a text that stands there often.
func many(text string, n int) string { return strings.Repeat(text, n) }

// rising are all bytes, in order.
func rising() string {
	var out []byte
	for c := range 256 {
		out = append(out, byte(c))
	}
	return string(out)
}

// common are what comes in to every program: nothing, each byte alone, and what is of no program's form.
func common() []string {
	out := []string{""}
	for c := range 256 {
		out = append(out, string([]byte{byte(c)}))
	}
	return append(out,
		"hello, world", "abcXYZ~\x00\xff", "\x00\x00\x00", "\xff\xff\xff", "\n\n", "a\nb\r\nc\td", " ", "  ", "   ",
		"-5", "-5 -3", "+5 3", " 5", " 5 3", "\n5\n3\n", "5", "5 ", "5\n", "5\x00", "5\xff", "5x3", "5,6,3", "5/6/3", "5:6:3", "5  6  3", "5 - 3", "5 3", "5 3 ", "5 3 2", "5 3 2 4 6", "12", "12 18", "12 18 5 ", "12\t18\r\n5", "5.3.2",
		"0", "00", "000 00 0", "0 0 0", "007", "007 0010 0003 ", "0x12 0x3", "1e3 2", "1_000", "12abc", "abc12", "a1b2c3", ":;<", "/.-", "/5", ":5", "5/", "5:", "\uff15 \uff13", "\u0665", "five", "60 ", "9 3 65537",
	)
}

// alphabets are bytes of which texts are made: at and next to those at which programs ask.
func alphabets() []string {
	return []string{
		rising(), "\x00", "\xff", "ab", "09", "0123456789", "0123456789 ", "0123456789abc,- \n", "abcdefghijklmnopqrstuvwxyz", "The quick brown fox jumps over 13 lazy dogs.\n",
		"\x1f\x20\x21", "/09:", "@AZ[`az{", "\x7e\x7f\x80\x81\xfe\xff\x00\x01", " \t\n\r\v\fx\u00a0\u2003",
	}
}

// lengths are how many bytes come in: few, and at and next to 40, 64 and 200.
func lengths() []int {
	return []int{2, 3, 4, 5, 6, 7, 15, 16, 17, 31, 39, 40, 41, 42, 63, 64, 65, 66, 67, 100, 128, 199, 200, 201, 202, 255, 256, 300, 400}
}

// picked is a text of bytes of an alphabet.
func picked(r *rand.Rand, alphabet string, length int) string {
	out := make([]byte, length)
	for i := range out {
		out[i] = alphabet[r.Intn(len(alphabet))]
	}
	return string(out)
}

// allTexts are all that have so many letters at most.
func allTexts(letters string, most int) []string {
	out := []string{""}
	for from := 0; most > 0; most-- {
		to := len(out)
		for _, ahead := range out[from:to] {
			for _, c := range []byte(letters) {
				out = append(out, ahead+string([]byte{c}))
			}
		}
		from = to
	}
	return out
}

// texts are bytes for programs that take any.
func texts(r *rand.Rand) []string {
	out := append(common(), rising(), turnedRound(rising()), rising()+rising())
	out = append(out, allTexts("07 z\x00", 4)...)
	for _, alphabet := range alphabets() {
		for _, length := range lengths() {
			out = append(out, picked(r, alphabet, length))
		}
	}
	for _, length := range lengths() {
		up := first(rising()+rising(), length)
		out = append(out, up, turnedRound(up))
	}
	return out
}

// wordTexts: so many words, too, that eight bits don't count them.
func wordTexts(r *rand.Rand) []string {
	out := texts(r)
	for _, behind := range []string{" ", "\n", "\x00", " \t "} {
		for _, words := range []int{255, 256, 257, 1000, 2000} {
			out = append(out, many("a"+behind, words), many(behind+"\xff!", words))
		}
	}
	return out
}

// sortTexts: all orders of few, and 64 of which the last one comes first, with one that is less behind them.
func sortTexts(r *rand.Rand) []string {
	out := append(texts(r), allTexts("acb", 5)...)
	for range 50 {
		few := []byte("\x00\x01\x7f\x80\xff\xff")
		r.Shuffle(len(few), func(i, k int) { few[i], few[k] = few[k], few[i] })
		out = append(out, string(few))
	}
	for _, length := range []int{62, 63, 64, 65, 66} {
		falling := turnedRound(first(rising(), length))
		out = append(out, falling, falling+"\x00", many("\xff", length)+"\x00", many("\xff", length-1)+"\x00\x01")
	}
	return append(out, many("cba", 65536/3))
}

// mirrorTexts: texts that are the same turned round, of all lengths near the bounds, and with one byte that is not.
func mirrorTexts(r *rand.Rand) []string {
	out := append(texts(r), allTexts("ab", 8)...)
	for _, length := range []int{2, 3, 4, 5, 10, 11, 99, 100, 101, 198, 199, 200, 201, 202, 203, 400} {
		half := picked(r, rising(), length/2)
		same := half + picked(r, "xy", length%2) + turnedRound(half)
		out = append(out, same, same+"x", same+same, many("z", length))
		for _, at := range []int{0, 1, length/2 - 1, length / 2, (length + 1) / 2, length - 2, length - 1, 99, 100, 199, 200} {
			if at >= 0 && at < length {
				flaw := []byte(same)
				flaw[at]++
				out = append(out, string(flaw))
			}
		}
	}
	return append(out, many("\x00", 65536), many("ab", 32768))
}

// luhnTexts: digits, as many as count and some more, alone and with other bytes between them.
func luhnTexts(r *rand.Rand) []string {
	out := append(texts(r), allTexts("0159", 5)...)
	for length := 1; length <= 60; length++ {
		for range 12 {
			digits := picked(r, "012345678998", length)
			out = append(out, digits, strings.Join(strings.Split(digits, ""), "-"), " "+digits[:length/2]+"/: \xb5"+digits[length/2:]+"\n")
		}
	}
	// Sums above 255 are but of digits that are nearly all great.
	for length := 28; length <= 42; length++ {
		for range 10 {
			out = append(out, picked(r, "789", length))
		}
	}
	// Behind the fortieth digit none counts, whatever it is.
	for d := range 10 {
		right := many("0", 39) + "0"
		out = append(out, right+fmt.Sprint(d), many("0", 39)+fmt.Sprint(d), fmt.Sprint(d)+many("0", 39), fmt.Sprint(d)+many("0", 40))
	}
	return out
}

// codeTexts: each of the 64 signs in each of the four places, with one, two and three bytes at the end.
func codeTexts(r *rand.Rand) []string {
	out := texts(r)
	for n := range 64 {
		for at := range 4 {
			bits := big.NewInt(int64(n) << (6 * at))
			three := string(bits.FillBytes(make([]byte, 3)))
			out = append(out, three, three[1:], three[:2], three[2:], three[:1], three+three, three+three[1:])
		}
	}
	for length := range 40 {
		out = append(out, picked(r, rising(), length))
	}
	return out
}

// sumTexts: numbers at and next to 2^64, one behind the other.
func sumTexts(r *rand.Rand) []string {
	out := texts(r)
	for _, n := range edges() {
		for _, other := range []string{"0", "1", "2", "18446744073709551615", "9223372036854775808"} {
			out = append(out, n, n+" "+other, other+"x"+n+"\n", "-"+n+"--"+other+"-")
		}
	}
	for range 300 {
		out = append(out, picked(r, "0123456789012345678901234567890123456789 -", 1+r.Intn(200)))
	}
	return out
}

// edges are numbers at and next to bounds: powers of 2 and of 10, as far as beyond 2^64.
func edges() (out []string) {
	add := func(n *big.Int) {
		for more := int64(-1); more <= 1; more++ {
			out = append(out, new(big.Int).Add(n, big.NewInt(more)).String())
		}
	}
	for width := uint(1); width <= 66; width++ {
		add(big2(width))
	}
	ten := big.NewInt(1)
	for range 22 {
		add(ten)
		ten = new(big.Int).Mul(ten, big.NewInt(10))
	}
	return append(out, "18446744073709551615000", "340282366920938463463374607431768211456", many("9", 100), "4294967295000", many("0", 100)+"12")
}

// few are numbers for pairs and threes.
func few() []string {
	return []string{
		"0", "1", "2", "3", "6", "7", "10", "12", "63", "64", "65", "255", "256", "65535", "65536", "65537", "4294967295", "4294967296", "4294967297",
		"9223372036854775807", "9223372036854775808", "18446744073709551614", "18446744073709551615", "18446744073709551616", "18446744073709551621",
	}
}

// wild is a number of any size, now and then with noughts ahead.
func wild(r *rand.Rand) string {
	return many("0", max(0, r.Intn(8)-5)) + picked(r, "0123456789", 1+r.Intn(22))
}

// counted are numbers from 0 on, each with something else behind it.
func counted(most int) (out []string) {
	behind := []string{"", " ", "\n", " 7", "x", "/", ":", "\x00", "\xff", ".5", "-1", " 12 3 "}
	for n := 0; n <= most; n++ {
		out = append(out, fmt.Sprint(n, behind[n%len(behind)]))
	}
	return out
}

// singles are what comes in to a program that asks for one number.
func singles(r *rand.Rand) []string {
	out := append(append(common(), counted(300)...), edges()...)
	for range 200 {
		n := wild(r)
		out = append(out, n, n+" ", n+"\n"+wild(r))
	}
	return out
}

// pairs are what comes in to a program that asks for two.
func pairs(r *rand.Rand) []string {
	out := append(common(), edges()...)
	for a := range 13 {
		for b := range 13 {
			out = append(out, fmt.Sprintf("%d %d ", a, b))
		}
	}
	for _, a := range few() {
		for _, b := range few() {
			out = append(out, a+" "+b, a+"\n"+b+"\n")
		}
	}
	for range 200 {
		a, b, c := r.Int63n(1<<20), r.Int63n(1<<20), r.Int63n(1<<20)
		out = append(out, wild(r)+","+wild(r), fmt.Sprintf("%d-%d", a*c, b*c), fmt.Sprintf("%d %d %d", a, b, c))
	}
	return append(out, "7540113804746346429 12200160415121876738 ", "12200160415121876738 7540113804746346429")
}

// threes are what comes in to a program that asks for three.
func threes(r *rand.Rand) []string {
	out := append(common(), edges()...)
	for a := range 6 {
		for b := range 6 {
			for c := range 8 {
				out = append(out, fmt.Sprintf("%d %d %d ", a, b, c))
			}
		}
	}
	l := few()
	for range 600 {
		out = append(out, l[r.Intn(len(l))]+" "+l[r.Intn(len(l))]+" "+l[r.Intn(len(l))])
	}
	for range 300 {
		out = append(out, fmt.Sprintf("%s/%s/%d\n", wild(r), wild(r), r.Int63n(1<<34)), fmt.Sprintf("%d %d %d", r.Int63(), r.Int63n(1000), 4294967295-r.Int63n(3)))
	}
	return out
}
