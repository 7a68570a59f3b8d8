package types

import (
	"math/big"
	"strconv"
	"strings"
	"testing"

	"pairlegal/api"
)

var (
	i8t  = api.Type{Bits: 8, Signed: true}
	u8t  = api.Type{Bits: 8}
	i16t = api.Type{Bits: 16, Signed: true}
	u16t = api.Type{Bits: 16}
	i32t = api.Type{Bits: 32, Signed: true}
	u32t = api.Type{Bits: 32}
	i64t = api.Type{Bits: 64, Signed: true}
	u64t = api.Type{Bits: 64}
)

func allTypes() []api.Type { return []api.Type{i8t, u8t, i16t, u16t, i32t, u32t, i64t, u64t} }

// noTypes has the neighbours of the widths, what is between them, and the ends of int, with and without a sign.
func noTypes() []api.Type {
	var out []api.Type
	for _, bits := range []int{-1 << 63, -64, -32, -16, -8, -1, 0, 1, 4, 7, 9, 12, 15, 17, 24, 31, 33, 48, 63, 65, 80, 128, 256, 1<<32 + 8, 1<<32 + 16, 1<<63 - 1} {
		out = append(out, api.Type{Bits: bits}, api.Type{Bits: bits, Signed: true})
	}
	return out
}

// numbers has the edges of each width, what stands beside them, and numbers with bits above each width.
func numbers() []uint64 {
	out := []uint64{0, 1, 2, 3, 5, 7, 100, 200, 12345, 0x123456789abcdef0, 0xfedcba9876543210, 0xaaaaaaaaaaaaaaaa, 0xff00, 0x1_0000_0000_0001}
	for _, bits := range []int{8, 16, 32, 64} {
		top := uint64(1) << (bits - 1)
		out = append(out, top-1, top, top+1, 2*top-2, 2*top-1, 2*top, 2*top+1, -top, -top-1)
	}
	return append(out, 1<<64-2, 1<<64-3, 1<<64-7)
}

func power(bits int) *big.Int { return new(big.Int).Lsh(big.NewInt(1), uint(bits)) }

// means is the document's word for it, in whole numbers without bounds.
func means(x uint64, t api.Type) *big.Int {
	n := new(big.Int).Mod(new(big.Int).SetUint64(x), power(t.Bits))
	if t.Signed && n.Cmp(power(t.Bits-1)) >= 0 {
		n.Sub(n, power(t.Bits))
	}
	return n
}

func modulo(n *big.Int, t api.Type) uint64 {
	return new(big.Int).Mod(n, power(t.Bits)).Uint64()
}

// G1

func TestTypesAndTheirNames(t *testing.T) {
	for _, c := range []struct {
		name string
		t    api.Type
	}{
		{"i8", i8t}, {"u8", u8t}, {"i16", i16t}, {"u16", u16t}, {"i32", i32t}, {"u32", u32t}, {"i64", i64t}, {"u64", u64t},
	} {
		if !Valid(c.t) || Name(c.t) != c.name {
			t.Errorf("%v: %v, %q comes, not %q", c.t, Valid(c.t), Name(c.t), c.name)
		}
		if got, ok := Named(c.name); got != c.t || !ok {
			t.Errorf("Named(%q): %v, %v comes, not %v", c.name, got, ok, c.t)
		}
	}
}

func TestWhatIsNoType(t *testing.T) {
	for _, x := range noTypes() {
		want := ""
		if x.Bits == 0 {
			want = "void"
		}
		if Valid(x) || Name(x) != want {
			t.Errorf("%v: %v, %q comes, not %q", x, Valid(x), Name(x), want)
		}
	}
}

func TestWhatIsNoName(t *testing.T) {
	l := []string{
		"", "void", "Void", "i", "u", "8", "16", "i0", "u0", "i1", "u1", "i6", "u3", "i4", "i24", "u24", "i128", "u128", "i48",
		"f32", "int", "uint", "s8", "b8", "i-8", "i+8", "u-16", "-8", "i8i8", "i8 u8", "i8,u8", "ui8", "iu8", "8i", "61i",
		"i٨", "ｉ8", "i８", "\xff", "\x00", "i\x008", "i8.0", "i8e0", "i0x10", "i1_6", strings.Repeat("i", 100000), "i" + strings.Repeat("8", 100000),
	}
	for _, x := range allTypes() {
		name := Name(x)
		l = append(l, strings.ToUpper(name), name[:1]+"0"+name[1:], name[:1]+"00"+name[1:], name[1:], name[:len(name)-1])
		for _, more := range []string{" ", "\t", "\n", "\x00", "0", "1", "6", "-", "+", "_", "i", "u", ";", "[", "*"} {
			l = append(l, name+more, more+name, name[:1]+more+name[1:])
		}
	}
	for _, bits := range []int{7, 9, 15, 17, 31, 33, 63, 65} {
		l = append(l, "i"+strconv.Itoa(bits), "u"+strconv.Itoa(bits))
	}
	for _, s := range l {
		if got, ok := Named(s); got != (api.Type{}) || ok {
			t.Errorf("Named(%.20q): %v, %v comes, and it names none", s, got, ok)
		}
	}
}

// TestNamesOfEveryShortText goes through all texts of up to three bytes that letters, digits and blanks make: just the eight are names.
func TestNamesOfEveryShortText(t *testing.T) {
	const signs = "iuIUvod0123456789 -+\x00"
	found := 0
	var try func(s string)
	try = func(s string) {
		if x, ok := Named(s); ok {
			found++
			if Name(x) != s {
				t.Errorf("Named(%q): %v", s, x)
			}
		}
		if len(s) < 3 {
			for i := range len(signs) {
				try(s + signs[i:i+1])
			}
		}
	}
	try("")
	if found != 8 {
		t.Errorf("%d names, not 8", found)
	}
}

// G2

func TestPromoteAndWords(t *testing.T) {
	for _, c := range []struct {
		t, want api.Type
		words   int
	}{
		{i8t, i16t, 1}, {u8t, i16t, 1}, {i16t, i16t, 1}, {u16t, u16t, 1}, {i32t, i32t, 2}, {u32t, u32t, 2}, {i64t, i64t, 4}, {u64t, u64t, 4},
	} {
		if got := Promote(c.t); got != c.want {
			t.Errorf("Promote(%v): %v comes, not %v", c.t, got, c.want)
		}
		if got := Words(c.t); got != c.words {
			t.Errorf("Words(%v): %d comes, not %d", c.t, got, c.words)
		}
	}
}

// common is what Common must answer, pair by pair, in the order of allTypes.
const common = `
	i16 i16 i16 u16 i32 u32 i64 u64
	i16 i16 i16 u16 i32 u32 i64 u64
	i16 i16 i16 u16 i32 u32 i64 u64
	u16 u16 u16 u16 i32 u32 i64 u64
	i32 i32 i32 i32 i32 u32 i64 u64
	u32 u32 u32 u32 u32 u32 i64 u64
	i64 i64 i64 i64 i64 i64 i64 u64
	u64 u64 u64 u64 u64 u64 u64 u64`

func TestCommon(t *testing.T) {
	want := strings.Fields(common)
	for i, a := range allTypes() {
		for j, b := range allTypes() {
			if got := Name(Common(a, b)); got != want[i*8+j] {
				t.Errorf("Common(%s, %s): %s comes, not %s", Name(a), Name(b), got, want[i*8+j])
			}
		}
	}
}

func TestLiteral(t *testing.T) {
	none := api.Type{}
	for _, c := range []struct {
		n                uint64
		signed, unsigned api.Type
	}{
		{0, i16t, u16t}, {1, i16t, u16t}, {127, i16t, u16t}, {128, i16t, u16t}, {255, i16t, u16t}, {256, i16t, u16t},
		{32766, i16t, u16t}, {32767, i16t, u16t}, {32768, i32t, u16t}, {32769, i32t, u16t},
		{65534, i32t, u16t}, {65535, i32t, u16t}, {65536, i32t, u32t}, {65537, i32t, u32t},
		{1<<31 - 2, i32t, u32t}, {1<<31 - 1, i32t, u32t}, {1 << 31, i64t, u32t}, {1<<31 + 1, i64t, u32t},
		{1<<32 - 2, i64t, u32t}, {1<<32 - 1, i64t, u32t}, {1 << 32, i64t, u64t}, {1<<32 + 1, i64t, u64t}, {1<<48 + 3, i64t, u64t},
		{1<<63 - 2, i64t, u64t}, {1<<63 - 1, i64t, u64t}, {1 << 63, none, u64t}, {1<<63 + 1, none, u64t}, {1<<64 - 2, none, u64t}, {1<<64 - 1, none, u64t},
	} {
		want := api.OK
		if c.signed == none {
			want = api.ErrRange
		}
		if got, err := Literal(c.n, false); got != c.signed || err != want {
			t.Errorf("Literal(%d, false): %v, %d comes, not %v, %d", c.n, got, err, c.signed, want)
		}
		if got, err := Literal(c.n, true); got != c.unsigned || err != api.OK {
			t.Errorf("Literal(%d, true): %v, %d comes, not %v", c.n, got, err, c.unsigned)
		}
	}
}

func TestConvertByHand(t *testing.T) {
	for _, c := range []struct {
		x        uint64
		from, to api.Type
		want     uint64
	}{
		{5, u8t, i64t, 5}, {127, i8t, i16t, 127}, {128, i8t, i16t, 65408}, {128, u8t, i16t, 128}, {255, i8t, u64t, 1<<64 - 1}, {255, u8t, u64t, 255},
		{256, i8t, u16t, 0}, {256 + 255, i8t, u16t, 65535}, {256 + 255, u8t, u16t, 255}, {0xff80, u8t, i32t, 128}, {0xff80, i8t, i32t, 1<<32 - 128},
		{32767, i16t, u32t, 32767}, {32768, i16t, u32t, 1<<32 - 32768}, {32768, u16t, i32t, 32768}, {65535, i16t, u8t, 255}, {300, u16t, i8t, 44},
		{1<<32 - 1, i32t, i64t, 1<<64 - 1}, {1<<32 - 1, u32t, i64t, 1<<32 - 1}, {1 << 31, i32t, u64t, 1<<64 - 1<<31}, {1<<32 + 7, i32t, u64t, 7},
		{1<<64 - 1, i64t, u16t, 65535}, {1<<64 - 1, i64t, i64t, 1<<64 - 1}, {1 << 63, u64t, i64t, 1 << 63}, {1 << 63, i64t, u32t, 0}, {1<<40 + 9, u64t, u8t, 9},
	} {
		if got := Convert(c.x, c.from, c.to); got != c.want {
			t.Errorf("Convert(%d, %s, %s): %d comes, not %d", c.x, Name(c.from), Name(c.to), got, c.want)
		}
	}
}

func TestConvert(t *testing.T) {
	for _, from := range allTypes() {
		for _, to := range allTypes() {
			for _, x := range numbers() {
				want := modulo(means(x, from), to)
				if got := Convert(x, from, to); got != want {
					t.Errorf("Convert(%d, %s, %s): %d comes, not %d", x, Name(from), Name(to), got, want)
				}
			}
		}
	}
}
