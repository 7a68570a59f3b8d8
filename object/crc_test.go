package object

import (
	"math/big"
	"math/rand"
	"strings"
	"testing"
)

// Q1

// TestSums: sums by hand, and such as others have written down.
func TestSums(t *testing.T) {
	for _, c := range []struct {
		text string
		want int
	}{
		{"123456789", 10673},
		{"", 65535},
		{"\x00", 57840},
		{"\xff", 65280},
		{"\xff\xff", 0},
		{"\xff\xff\x00\x00\x00", 0},
		{"\xff\xff\x00\x01", 4129},
		{"\xff\xff\x00\x02", 8258},
		{"\xff\xff\x00\x80", 0x9188},
		{"\xff\xff\x80\x00", 0x1b98},
		{"\xff\xff\x10\x21", 0x3730},
		{"A", 0xb915},
		{"a", 40311},
		{strings.Repeat("A", 256), 0xea0b},
	} {
		if got := Crc([]byte(c.text)); got != c.want {
			t.Errorf("%d comes of %.20q, not %d", got, c.text, c.want)
		}
	}
	if got := Crc(nil); got != 65535 {
		t.Errorf("%d comes of no bytes", got)
	}
}

// divided is the sum as a remainder: bits are coefficients of a polynomial, 16 noughts stand behind, and the first 16 bits are turned round.
func divided(b []byte) int {
	rest := new(big.Int).Lsh(new(big.Int).SetBytes(b), 16)
	rest.Xor(rest, new(big.Int).Lsh(big.NewInt(65535), uint(8*len(b))))
	for rest.BitLen() > 16 {
		rest.Xor(rest, new(big.Int).Lsh(big.NewInt(65536+4129), uint(rest.BitLen()-17)))
	}
	return int(rest.Int64())
}

// TestSumIsARemainder: of each byte, and of texts drawn at random of each length.
func TestSumIsARemainder(t *testing.T) {
	is := func(b []byte) {
		t.Helper()
		if got, want := Crc(b), divided(b); got != want || sumOf(b) != want {
			t.Fatalf("%d (and %d) comes of %d bytes, not %d", got, sumOf(b), len(b), want)
		}
	}
	r := rand.New(rand.NewSource(1))
	for n := range 256 {
		x := byte(n)
		for _, b := range [][]byte{{x}, {x, x}, {0, x}, {x, 0}, {255, 255, x}, {x, 255, 255, 255}} {
			is(b)
		}
		long := make([]byte, n)
		r.Read(long)
		is(long)
	}
}

// TestSumOfTwo: each two bytes have a sum of their own.
func TestSumOfTwo(t *testing.T) {
	var seen [65536]bool
	for n := range seen {
		b := []byte{byte(n >> 8), byte(n)}
		got := Crc(b)
		if got != sumOf(b) || seen[got] {
			t.Fatalf("%d comes of %q, not %d", got, b, sumOf(b))
		}
		seen[got] = true
	}
}

func TestSumOfMany(t *testing.T) {
	r := rand.New(rand.NewSource(2))
	for _, n := range []int{255, 256, 257, 4095, 65535, 65536, 65537, 400000, 3000000} {
		b := make([]byte, n)
		if got, want := Crc(b), sumOf(b); got != want {
			t.Errorf("%d comes of %d noughts, not %d", got, n, want)
		}
		r.Read(b)
		if got, want := Crc(b), sumOf(b); got != want {
			t.Errorf("%d comes of %d bytes, not %d", got, n, want)
		}
	}
}

// TestSumOfSum: bytes with their sum behind them have the sum 0.
func TestSumOfSum(t *testing.T) {
	r := rand.New(rand.NewSource(3))
	for n := range 300 {
		b := make([]byte, n)
		r.Read(b)
		sum := Crc(b)
		if got := Crc(append(b, byte(sum>>8), byte(sum))); got != 0 {
			t.Errorf("%d comes of %d bytes and their sum", got, n)
		}
	}
}

// TestSumTellsChanges: any byte, or two that stand together, changed to whatever it be.
func TestSumTellsChanges(t *testing.T) {
	text := "123456789"
	for at := range len(text) {
		for n := 1; n < 65536; n++ {
			b := []byte(text)
			b[at] ^= byte(n)
			if at+1 < len(b) {
				b[at+1] ^= byte(n >> 8)
			} else if n > 255 {
				break
			}
			if Crc(b) == 10673 {
				t.Fatalf("%q has the sum of %q", b, text)
			}
		}
	}
}
