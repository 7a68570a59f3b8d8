package word

import (
	"math/big"
	"slices"
	"testing"

	"pairlegal/api"
)

// A3

func TestSplit(t *testing.T) {
	for _, c := range []struct {
		x    uint64
		w    int
		want []int
	}{
		{0, 8, []int{0}}, {0x1234, 8, []int{0x34}}, {1<<64 - 1, 8, []int{255}},
		{0x12345, 16, []int{0x2345}}, {65535, 16, []int{65535}},
		{0, 32, []int{0, 0}}, {0x123456789, 32, []int{0x6789, 0x2345}}, {1 << 16, 32, []int{0, 1}},
		{5, 64, []int{5, 0, 0, 0}}, {0x123456789abcdef0, 64, []int{0xdef0, 0x9abc, 0x5678, 0x1234}}, {1<<64 - 1, 64, []int{65535, 65535, 65535, 65535}},
	} {
		got, err := Split(c.x, c.w)
		if err != api.OK || !slices.Equal(got, c.want) {
			t.Errorf("Split(%d, %d): %v, %d comes, not %v", c.x, c.w, got, err, c.want)
		}
	}
}

func TestJoin(t *testing.T) {
	for _, c := range []struct {
		l    []int
		want uint64
		err  api.Errno
	}{
		{[]int{0}, 0, api.OK}, {[]int{5}, 5, api.OK}, {[]int{65535}, 65535, api.OK}, {[]int{0, 1}, 65536, api.OK},
		{[]int{1, 2, 3}, 3<<32 + 2<<16 + 1, api.OK}, {[]int{0xdef0, 0x9abc, 0x5678, 0x1234}, 0x123456789abcdef0, api.OK},
		{[]int{65535, 65535, 65535, 65535}, 1<<64 - 1, api.OK},
		{nil, 0, api.ErrMany}, {[]int{}, 0, api.ErrMany}, {[]int{1, 2, 3, 4, 5}, 0, api.ErrMany}, {make([]int, 100), 0, api.ErrMany},
		{[]int{-1}, 0, api.ErrRange}, {[]int{65536}, 0, api.ErrRange}, {[]int{7, 7, 7, 65536}, 0, api.ErrRange}, {[]int{7, -1, 7}, 0, api.ErrRange},
		{[]int{-1 << 63}, 0, api.ErrRange}, {[]int{1<<63 - 1, 1}, 0, api.ErrRange}, {[]int{1 << 32}, 0, api.ErrRange},
		{[]int{-1, 2, 3, 4, 65536}, 0, api.ErrMany},
	} {
		got, err := Join(c.l)
		same(t, "Join", got, err, c.want, c.err)
	}
}

func TestJoinOfSplit(t *testing.T) {
	for _, w := range widths {
		for _, x := range numbers() {
			l, _ := Split(x, w)
			got, err := Join(l)
			same(t, "Join of Split", got, err, means(x, w, false).Uint64(), api.OK)
		}
	}
}

// A4

// inOneWord works out what must come of a and sign times b (and the carry), in whole numbers.
func inOneWord(a, b int, carry bool, sign int64) (int, api.Flags) {
	worth := func(signed bool) *big.Int {
		x, y := means(uint64(a), 16, signed), means(uint64(b), 16, signed)
		if carry {
			y.Add(y, big.NewInt(1))
		}
		return x.Add(x, y.Mul(y, big.NewInt(sign)))
	}
	out := modulo(worth(false), 16)
	asSigned := means(out, 16, true)
	return int(out), api.Flags{
		C: worth(false).Cmp(power(16)) >= 0 || worth(false).Sign() < 0,
		Z: out == 0,
		N: asSigned.Sign() < 0,
		V: asSigned.Cmp(worth(true)) != 0,
	}
}

func TestSumByHand(t *testing.T) {
	for _, c := range []struct {
		a, b  int
		carry bool
		want  int
		flags api.Flags
	}{
		{1, 2, false, 3, api.Flags{}}, {1, 2, true, 4, api.Flags{}},
		{65535, 1, false, 0, api.Flags{C: true, Z: true}},
		{65535, 65535, true, 65535, api.Flags{C: true, N: true}},
		{32767, 1, false, 32768, api.Flags{N: true, V: true}},
		{32767, 0, true, 32768, api.Flags{N: true, V: true}},
		{32768, 32768, false, 0, api.Flags{C: true, Z: true, V: true}},
		{32768, 65535, false, 32767, api.Flags{C: true, V: true}},
		{32768, 65535, true, 32768, api.Flags{C: true, N: true}},
		{0, 0, false, 0, api.Flags{Z: true}},
	} {
		got, f := Sum(c.a, c.b, c.carry)
		if got != c.want || f != c.flags {
			t.Errorf("Sum(%d, %d, %v): %d, %v comes, not %d, %v", c.a, c.b, c.carry, got, f, c.want, c.flags)
		}
	}
}

func TestDifferenceByHand(t *testing.T) {
	for _, c := range []struct {
		a, b   int
		borrow bool
		want   int
		flags  api.Flags
	}{
		{5, 3, false, 2, api.Flags{}}, {5, 3, true, 1, api.Flags{}}, {5, 5, false, 0, api.Flags{Z: true}},
		{5, 5, true, 65535, api.Flags{C: true, N: true}},
		{0, 1, false, 65535, api.Flags{C: true, N: true}},
		{32768, 1, false, 32767, api.Flags{V: true}},
		{32767, 65535, false, 32768, api.Flags{C: true, N: true, V: true}},
		{32767, 65535, true, 32767, api.Flags{C: true}},
		{0, 65535, true, 0, api.Flags{C: true, Z: true}},
		{0, 32768, false, 32768, api.Flags{C: true, N: true, V: true}},
	} {
		got, f := Difference(c.a, c.b, c.borrow)
		if got != c.want || f != c.flags {
			t.Errorf("Difference(%d, %d, %v): %d, %v comes, not %d, %v", c.a, c.b, c.borrow, got, f, c.want, c.flags)
		}
	}
}

func TestSumAndDifference(t *testing.T) {
	l := []int{0, 1, 2, 255, 256, 32766, 32767, 32768, 32769, 65534, 65535, 65536, 65537, -1, -2, -32768, -65536, 1<<32 + 5, 1<<63 - 1, -1 << 63}
	for _, a := range l {
		for _, b := range l {
			for _, carry := range []bool{false, true} {
				got, f := Sum(a, b, carry)
				want, flags := inOneWord(a, b, carry, 1)
				if got != want || f != flags {
					t.Errorf("Sum(%d, %d, %v): %d, %v comes, not %d, %v", a, b, carry, got, f, want, flags)
				}
				got, f = Difference(a, b, carry)
				want, flags = inOneWord(a, b, carry, -1)
				if got != want || f != flags {
					t.Errorf("Difference(%d, %d, %v): %d, %v comes, not %d, %v", a, b, carry, got, f, want, flags)
				}
			}
		}
	}
}

func TestListsByHand(t *testing.T) {
	for _, c := range []struct {
		a, b, sum []int
		f         api.Flags
		less      []int
		g         api.Flags
	}{
		{[]int{5}, []int{5}, []int{10}, api.Flags{}, []int{0}, api.Flags{Z: true}},
		{[]int{65535, 0}, []int{1, 0}, []int{0, 1}, api.Flags{}, []int{65534, 0}, api.Flags{}},
		{[]int{0, 1}, []int{1, 0}, []int{1, 1}, api.Flags{}, []int{65535, 0}, api.Flags{}},
		{[]int{65535, 65535}, []int{1, 0}, []int{0, 0}, api.Flags{C: true, Z: true}, []int{65534, 65535}, api.Flags{N: true}},
		{[]int{0, 0, 0}, []int{1, 0, 0}, []int{1, 0, 0}, api.Flags{}, []int{65535, 65535, 65535}, api.Flags{C: true, N: true}},
		{[]int{65535, 65535, 65535, 32767}, []int{1, 0, 0, 0}, []int{0, 0, 0, 32768}, api.Flags{N: true, V: true}, []int{65534, 65535, 65535, 32767}, api.Flags{}},
		{[]int{-1, 65536}, []int{65537, -65536}, []int{0, 1}, api.Flags{}, []int{65534, 0}, api.Flags{}},
	} {
		got, f, err := AddWords(c.a, c.b)
		if !slices.Equal(got, c.sum) || f != c.f || err != api.OK {
			t.Errorf("AddWords(%v, %v): %v, %v, %d comes, not %v, %v", c.a, c.b, got, f, err, c.sum, c.f)
		}
		got, f, err = SubWords(c.a, c.b)
		if !slices.Equal(got, c.less) || f != c.g || err != api.OK {
			t.Errorf("SubWords(%v, %v): %v, %v, %d comes, not %v, %v", c.a, c.b, got, f, err, c.less, c.g)
		}
	}
}

// TestListsAreWideNumbers: a carry chain is a wide sum, and the flags of a difference tell the order.
func TestListsAreWideNumbers(t *testing.T) {
	for _, w := range []int{16, 32, 64} {
		for _, a := range numbers() {
			for _, b := range numbers() {
				x, _ := Split(a, w)
				y, _ := Split(b, w)
				l, f, err := AddWords(x, y)
				got, _ := Join(l)
				want, _ := Add(a, b, w)
				same(t, "AddWords", got, err, want, api.OK)
				sum := new(big.Int).Add(means(a, w, false), means(b, w, false))
				if f.C != (sum.Cmp(power(w)) >= 0) || f.Z != (want == 0) {
					t.Errorf("AddWords of %d and %d (%d bits): %v", a, b, w, f)
				}
				l, f, err = SubWords(x, y)
				got, _ = Join(l)
				want, _ = Sub(a, b, w)
				same(t, "SubWords", got, err, want, api.OK)
				below, _ := Less(a, b, w, false)
				belowSigned, _ := Less(a, b, w, true)
				if f.C != below || (f.N != f.V) != belowSigned || f.Z != (want == 0) {
					t.Errorf("SubWords of %d and %d (%d bits): %v", a, b, w, f)
				}
			}
		}
	}
}

func TestListsOfWrongLength(t *testing.T) {
	for n := range 8 {
		for m := range 8 {
			want := api.ErrMany
			if n == m && n >= 1 && n <= 4 {
				want = api.OK
			}
			for _, f := range []func(a, b []int) ([]int, api.Flags, api.Errno){AddWords, SubWords} {
				got, flags, err := f(make([]int, n), make([]int, m))
				if err != want || err != api.OK && (len(got) != 0 || flags != api.Flags{}) {
					t.Errorf("of %d and %d words: %v, %v, %d comes, not %d", n, m, got, flags, err, want)
				}
			}
		}
	}
	for _, f := range []func(a, b []int) ([]int, api.Flags, api.Errno){AddWords, SubWords} {
		if got, flags, err := f(nil, []int{}); err != api.ErrMany || len(got) != 0 || flags != (api.Flags{}) {
			t.Errorf("of no words: %v, %v, %d", got, flags, err)
		}
	}
}

// TestListsAreOnlyRead: neither what is handed in nor its spare room changes, and what is answered is no part of it (Z2).
func TestListsAreOnlyRead(t *testing.T) {
	behind := []int{-1, 70000, 3, 9, 9}
	other := []int{1, 2, 3, 8, 8}
	for _, f := range []func(a, b []int) ([]int, api.Flags, api.Errno){AddWords, SubWords} {
		out, _, _ := f(behind[:3], other[:3])
		clear(out[:cap(out)])
		Join(behind[1:3])
		if !slices.Equal(behind, []int{-1, 70000, 3, 9, 9}) || !slices.Equal(other, []int{1, 2, 3, 8, 8}) {
			t.Errorf("%v, %v: what was handed in was changed", behind, other)
		}
	}
	first, _ := Split(7, 64)
	clear(first)
	if second, _ := Split(7, 64); second[0] != 7 {
		t.Errorf("two answers of Split share memory")
	}
}
