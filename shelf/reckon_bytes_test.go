package shelf

import (
	"encoding/base64"
	"encoding/hex"
	"hash/adler32"
	"math/big"
	"math/bits"
	"regexp"
	"slices"
	"strings"
)

// What programs must tell of bytes.

// first is the beginning of a text, with so many bytes at most.
func first(in string, many int) string { return in[:min(many, len(in))] }

// ofFirst: of programs that look at the first bytes alone; whether one more is there they know when it has come in.
func ofFirst(many int, reckon func(in string) string) func(in string) answer {
	return func(in string) answer { return tells(first(in, many+1), reckon(first(in, many))) }
}

// ofAll: of programs that look at all bytes.
func ofAll(reckon func(in string) string) func(in string) answer {
	return func(in string) answer { return tells(in, reckon(in)) }
}

// moved is a text in which each byte from a to z is another one; ToUpper and the like would look at runes.
func moved(in string, to func(c byte) byte) string {
	out := []byte(in)
	for i, c := range out {
		if 'a' <= c && c <= 'z' {
			out[i] = to(c)
		}
	}
	return string(out)
}

func toUpper(in string) string {
	return moved(in, func(c byte) byte { return c &^ 32 })
}

func toRot13(in string) string {
	const turned = "nopqrstuvwxyzabcdefghijklm"
	return moved(in, func(c byte) byte { return turned[c-'a'] })
}

func toHex(in string) string { return hex.EncodeToString([]byte(in)) }

func toBase64(in string) string { return base64.StdEncoding.EncodeToString([]byte(in)) }

func turnedRound(in string) string {
	out := []byte(in)
	slices.Reverse(out)
	return string(out)
}

func inOrder(in string) string {
	out := []byte(in)
	slices.Sort(out)
	return string(out)
}

func howMany(in string) string { return line(len(in)) }

func onesOf(in string) string {
	n := 0
	for i := range len(in) {
		n += bits.OnesCount8(in[i])
	}
	return line(n)
}

// crcOf is what is left of all bits, the first sixteen of them turned over and sixteen noughts behind them, when they are divided as a polynomial.
func crcOf(in string) string {
	left := new(big.Int).SetBytes([]byte(in + "\x00\x00"))
	left.Xor(left, new(big.Int).Lsh(big.NewInt(65535), uint(8*len(in))))
	by := big.NewInt(1<<16 | 1<<12 | 1<<5 | 1)
	for left.BitLen() > 16 {
		left.Xor(left, new(big.Int).Lsh(by, uint(left.BitLen()-17)))
	}
	return line(left)
}

func adlerOf(in string) string { return line(adler32.Checksum([]byte(in))) }

var allDigits = regexp.MustCompile("[0-9]+")

func sumOf(in string) string {
	sum := new(big.Int)
	for _, digits := range allDigits.FindAllString(in, -1) {
		n, _ := new(big.Int).SetString(digits, 10)
		sum.Add(sum, n)
	}
	return line(lower(sum, 64))
}

func digitsOf(in string) string {
	sum := 0
	for d := range 10 {
		sum += d * strings.Count(in, string(rune('0'+d)))
	}
	return line(sum)
}

// wordsOf counts where a word begins.
func wordsOf(in string) string {
	n := 0
	for i := range len(in) {
		if in[i] > ' ' && (i == 0 || in[i-1] <= ' ') {
			n++
		}
	}
	return line(n)
}

// luhnOf: of the first forty digits each second one from the last but one on counts as the sum of the digits of twice as much.
func luhnOf(in string) string {
	const twice = "0246813579"
	digits := turnedRound(first(strings.Join(allDigits.FindAllString(in, -1), ""), 40))
	sum := 0
	for i := range len(digits) {
		if i%2 == 1 {
			sum += int(twice[digits[i]-'0'] - '0')
		} else {
			sum += int(digits[i] - '0')
		}
	}
	return yes(sum%10 == 0)
}

func mirrorOf(in string) string { return yes(in == turnedRound(in)) }
