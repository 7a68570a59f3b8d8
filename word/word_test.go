package word

import (
	"math/big"
	"testing"

	"pairlegal/api"
)

var widths = []int{8, 16, 32, 64}

// noWidths has the neighbours of the widths, what is between them, and the ends of int.
var noWidths = []int{-1 << 63, -64, -16, -8, -1, 0, 1, 7, 9, 15, 17, 24, 31, 33, 48, 63, 65, 128, 1<<32 + 8, 1<<63 - 1}

// numbers has the edges of each width, with and without bits above it.
func numbers() []uint64 {
	out := []uint64{0, 1, 2, 3, 7, 10, 100, 250, 12345, 0x123456789abcdef0, 0xfedcba9876543210, 0xaaaaaaaaaaaaaaaa, 0xff00, 0x1_0000_0000_0001}
	for _, w := range widths {
		top := uint64(1) << (w - 1)
		out = append(out, top-1, top, top+1, 2*top-1, 2*top, 2*top+1)
	}
	return append(out, 1<<64-2, 1<<64-7)
}

// counts are by how much may be shifted: edges of the widths, and what is small only if bits above are left out.
func counts() []uint64 {
	return []uint64{0, 1, 3, 7, 8, 9, 15, 16, 17, 31, 32, 33, 63, 64, 65, 255, 256, 257, 65536, 65537, 1 << 32, 1<<32 + 1, 1 << 63, 1<<63 + 1, 1<<64 - 1}
}

func power(w int) *big.Int { return new(big.Int).Lsh(big.NewInt(1), uint(w)) }

// means is the document's word for it, in whole numbers without bounds.
func means(x uint64, w int, signed bool) *big.Int {
	n := new(big.Int).Mod(new(big.Int).SetUint64(x), power(w))
	if signed && n.Cmp(power(w-1)) >= 0 {
		n.Sub(n, power(w))
	}
	return n
}

func modulo(n *big.Int, w int) uint64 { return new(big.Int).Mod(n, power(w)).Uint64() }

func same[T comparable](t *testing.T, what string, got T, err api.Errno, want T, wantErr api.Errno) {
	t.Helper()
	if got != want || err != wantErr {
		t.Errorf("%s: %v, %d comes, not %v, %d", what, got, err, want, wantErr)
	}
}

// A1

func TestWidths(t *testing.T) {
	for _, w := range widths {
		if !Width(w) {
			t.Errorf("%d is a width", w)
		}
	}
	for _, w := range noWidths {
		if Width(w) {
			t.Errorf("%d is no width", w)
		}
	}
}

func TestCutAndSignedByHand(t *testing.T) {
	for _, c := range []struct {
		x      uint64
		w      int
		cut    uint64
		signed int64
	}{
		{0, 8, 0, 0}, {127, 8, 127, 127}, {128, 8, 128, -128}, {255, 8, 255, -1}, {256, 8, 0, 0}, {511, 8, 255, -1},
		{255, 16, 255, 255}, {32767, 16, 32767, 32767}, {32768, 16, 32768, -32768}, {65535, 16, 65535, -1}, {65536 + 5, 16, 5, 5},
		{1<<31 - 1, 32, 1<<31 - 1, 1<<31 - 1}, {1 << 31, 32, 1 << 31, -1 << 31}, {1<<32 - 1, 32, 1<<32 - 1, -1}, {1<<32 + 9, 32, 9, 9},
		{1<<63 - 1, 64, 1<<63 - 1, 1<<63 - 1}, {1 << 63, 64, 1 << 63, -1 << 63}, {1<<64 - 1, 64, 1<<64 - 1, -1},
	} {
		got, err := Cut(c.x, c.w)
		same(t, "Cut", got, err, c.cut, api.OK)
		means, err := Signed(c.x, c.w)
		same(t, "Signed", means, err, c.signed, api.OK)
	}
}

func TestCutAndSignedMean(t *testing.T) {
	for _, w := range widths {
		for _, x := range numbers() {
			got, err := Cut(x, w)
			same(t, "Cut", got, err, means(x, w, false).Uint64(), api.OK)
			n, err := Signed(x, w)
			same(t, "Signed", n, err, means(x, w, true).Int64(), api.OK)
		}
	}
}

// TestNoWidthIsToldFirst hands in a b of 0 too: it is wrong likewise, but told later.
func TestNoWidthIsToldFirst(t *testing.T) {
	for _, w := range noWidths {
		for name, f := range map[string]func(a, b uint64, w int) (uint64, api.Errno){
			"Cut":        func(a, b uint64, w int) (uint64, api.Errno) { return Cut(a, w) },
			"Add":        Add,
			"Sub":        Sub,
			"Mul":        Mul,
			"Shl":        Shl,
			"Div":        func(a, b uint64, w int) (uint64, api.Errno) { return Div(a, b, w, false) },
			"Div signed": func(a, b uint64, w int) (uint64, api.Errno) { return Div(a, b, w, true) },
			"Rem":        func(a, b uint64, w int) (uint64, api.Errno) { return Rem(a, b, w, false) },
			"Rem signed": func(a, b uint64, w int) (uint64, api.Errno) { return Rem(a, b, w, true) },
			"Shr":        func(a, b uint64, w int) (uint64, api.Errno) { return Shr(a, b, w, false) },
			"Shr signed": func(a, b uint64, w int) (uint64, api.Errno) { return Shr(a, b, w, true) },
		} {
			for _, b := range []uint64{0, 1, 200} {
				got, err := f(1<<64-1, b, w)
				same(t, name, got, err, 0, api.ErrKind)
			}
		}
		n, err := Signed(1<<64-1, w)
		same(t, "Signed", n, err, 0, api.ErrKind)
		many, err := Bits(1<<64-1, w)
		same(t, "Bits", many, err, 0, api.ErrKind)
		for _, signed := range []bool{false, true} {
			less, err := Less(1, 2, w, signed)
			same(t, "Less", less, err, false, api.ErrKind)
		}
		l, err := Split(1<<64-1, w)
		same(t, "Split", len(l), err, 0, api.ErrKind)
	}
}

// A2

func TestExamples(t *testing.T) {
	got, err := Add(250, 10, 8)
	same(t, "250 + 10", got, err, 4, api.OK)
	got, err = Div(249, 2, 8, true)
	same(t, "-7 / 2", got, err, 253, api.OK)
	got, err = Rem(249, 2, 8, true)
	same(t, "-7 % 2", got, err, 255, api.OK)
	got, err = Shr(249, 1, 8, true)
	same(t, "-7 >> 1 is rounded down", got, err, 252, api.OK)
	got, err = Shr(249, 1, 8, false)
	same(t, "249 >> 1", got, err, 124, api.OK)
}

func TestArithmetic(t *testing.T) {
	for _, w := range widths {
		for _, a := range numbers() {
			for _, b := range numbers() {
				x, y := means(a, w, false), means(b, w, false)
				got, err := Add(a, b, w)
				same(t, "Add", got, err, modulo(new(big.Int).Add(x, y), w), api.OK)
				got, err = Sub(a, b, w)
				same(t, "Sub", got, err, modulo(new(big.Int).Sub(x, y), w), api.OK)
				got, err = Mul(a, b, w)
				same(t, "Mul", got, err, modulo(new(big.Int).Mul(x, y), w), api.OK)
			}
		}
	}
}

func TestDivision(t *testing.T) {
	for _, w := range widths {
		for _, a := range numbers() {
			for _, b := range numbers() {
				for _, signed := range []bool{false, true} {
					checkDivision(t, a, b, w, signed)
				}
			}
		}
	}
}

func checkDivision(t *testing.T, a, b uint64, w int, signed bool) {
	t.Helper()
	x, y := means(a, w, signed), means(b, w, signed)
	var quotient, rest uint64
	want := api.ErrZero
	if y.Sign() != 0 {
		q, r := new(big.Int).QuoRem(x, y, new(big.Int))
		quotient, rest, want = modulo(q, w), modulo(r, w), api.OK
	}
	got, err := Div(a, b, w, signed)
	same(t, "Div", got, err, quotient, want)
	got, err = Rem(a, b, w, signed)
	same(t, "Rem", got, err, rest, want)
}

// TestDivisionByWhatIsCutToZero: of b the lower bits count alone.
func TestDivisionByWhatIsCutToZero(t *testing.T) {
	for _, w := range []int{8, 16, 32} {
		for _, signed := range []bool{false, true} {
			got, err := Div(5, 1<<w, w, signed)
			same(t, "Div", got, err, 0, api.ErrZero)
			got, err = Rem(5, 1<<w, w, signed)
			same(t, "Rem", got, err, 0, api.ErrZero)
		}
	}
}

// TestLowestByMinusOne: the quotient has no room with a sign, and wraps round.
func TestLowestByMinusOne(t *testing.T) {
	for _, w := range widths {
		lowest := uint64(1) << (w - 1)
		got, err := Div(lowest, 1<<64-1, w, true)
		same(t, "Div", got, err, lowest, api.OK)
		got, err = Rem(lowest, 1<<64-1, w, true)
		same(t, "Rem", got, err, 0, api.OK)
	}
}

func TestShifts(t *testing.T) {
	for _, w := range widths {
		for _, a := range numbers() {
			for _, n := range counts() {
				// Beyond 100 places nothing changes any more, and whole numbers without bounds would need too much room.
				by := uint(min(n, 100))
				got, err := Shl(a, n, w)
				same(t, "Shl", got, err, modulo(new(big.Int).Lsh(means(a, w, false), by), w), api.OK)
				for _, signed := range []bool{false, true} {
					got, err = Shr(a, n, w, signed)
					same(t, "Shr", got, err, modulo(new(big.Int).Div(means(a, w, signed), power(int(by))), w), api.OK)
				}
			}
		}
	}
}

func TestLessAndBits(t *testing.T) {
	for _, w := range widths {
		for _, a := range numbers() {
			for _, b := range numbers() {
				for _, signed := range []bool{false, true} {
					got, err := Less(a, b, w, signed)
					same(t, "Less", got, err, means(a, w, signed).Cmp(means(b, w, signed)) < 0, api.OK)
				}
			}
			ones := 0
			for i := range w {
				ones += int(a >> i & 1)
			}
			got, err := Bits(a, w)
			same(t, "Bits", got, err, ones, api.OK)
		}
	}
	for _, w := range widths {
		got, err := Bits(1<<64-1, w)
		same(t, "Bits", got, err, w, api.OK)
	}
}
