package emu

import (
	"fmt"
	"strings"
	"testing"

	"pairlegal/api"
	"pairlegal/instr"
)

// C3

var allFlags = func() []api.Flags {
	var out []api.Flags
	for n := range 16 {
		out = append(out, api.Flags{C: n&1 != 0, Z: n&2 != 0, N: n&4 != 0, V: n&8 != 0})
	}
	return out
}()

// fewFlags are enough where numbers vary, too.
var fewFlags = []api.Flags{{}, {C: true}, {Z: true}, {C: true, Z: true, N: true, V: true}}

var edges = []int{0, 1, 2, 255, 256, 21845, 32766, 32767, 32768, 32769, 43690, 65534, 65535}

// busy is a state in which no two things are the same.
func busy(f api.Flags) api.State {
	return api.State{Regs: [8]int{100, 201, 302, 403, 504, 605, 706, 20}, Flags: f, At: 3, Mem: []int{50, 51, 52, 53, 54, 55, 56, 57, 58, 59, 60, 61, 62, 63, 64, 65, 66, 67, 68, 69, 70, 71}}
}

// does takes one step, of i at 3: all stays as it was, and At becomes the place behind it, but for what change says.
func does(t *testing.T, i api.Instr, s api.State, change func(r *api.Ran)) {
	t.Helper()
	long, _ := instr.Long(i.Op)
	s.At = 3
	want := api.Ran{How: api.RanFuel, Steps: 1, State: s}
	want.State.At = 3 + long
	want.State.Mem = append([]int(nil), s.Mem...)
	change(&want)
	comes(t, fmt.Sprintf("%+v of %v, %+v", i, s.Regs, s.Flags), laid(3, i), s, "in", 1, want)
}

func TestMovesAndLoads(t *testing.T) {
	for _, f := range allFlags {
		s := busy(f)
		does(t, api.Instr{Op: api.OpMov, D: 2, S: 5}, s, func(r *api.Ran) { r.State.Regs[2] = 605 })
		does(t, api.Instr{Op: api.OpMov, D: 5, S: 5}, s, func(r *api.Ran) {})
		does(t, api.Instr{Op: api.OpMov, D: 7, S: 0}, s, func(r *api.Ran) { r.State.Regs[7] = 100 })
		does(t, api.Instr{Op: api.OpLdi, D: 0, Imm: 9}, s, func(r *api.Ran) { r.State.Regs[0] = 9 })
		does(t, api.Instr{Op: api.OpLdi, D: 7, Imm: 65535}, s, func(r *api.Ran) { r.State.Regs[7] = 65535 })
		does(t, api.Instr{Op: api.OpLdi, D: 3, Imm: 0}, s, func(r *api.Ran) { r.State.Regs[3] = 0 })
		does(t, api.Instr{Op: api.OpLd, D: 4, S: 7, Imm: 1}, s, func(r *api.Ran) { r.State.Regs[4] = 71 })
		does(t, api.Instr{Op: api.OpLd, D: 7, S: 7, Imm: 65535}, s, func(r *api.Ran) { r.State.Regs[7] = 69 })
		does(t, api.Instr{Op: api.OpSt, D: 7, S: 1, Imm: 65534}, s, func(r *api.Ran) { r.State.Mem[18] = 201 })
		does(t, api.Instr{Op: api.OpSt, D: 7, S: 7, Imm: 0}, s, func(r *api.Ran) { r.State.Mem[20] = 20 })
	}
}

// Each register may stand in each field.
func TestEachRegister(t *testing.T) {
	for d := range 8 {
		for from := range 8 {
			s := busy(api.Flags{})
			does(t, api.Instr{Op: api.OpMov, D: d, S: from}, s, func(r *api.Ran) { r.State.Regs[d] = s.Regs[from] })
		}
	}
}

func TestSumsAndDifferencesByHand(t *testing.T) {
	c, none := api.Flags{C: true, Z: true, N: true, V: true}, api.Flags{}
	for _, x := range []struct {
		op     int
		before api.Flags
		a, b   int
		want   int
		flags  api.Flags
	}{
		{api.OpAdd, none, 2, 3, 5, none}, {api.OpAdd, c, 2, 3, 5, none},
		{api.OpAdd, none, 65535, 1, 0, api.Flags{C: true, Z: true}},
		{api.OpAdd, none, 32767, 1, 32768, api.Flags{N: true, V: true}},
		{api.OpAdd, none, 32768, 32768, 0, api.Flags{C: true, Z: true, V: true}},
		{api.OpAdd, none, 65535, 65535, 65534, api.Flags{C: true, N: true}},
		{api.OpAdc, none, 2, 3, 5, none}, {api.OpAdc, c, 2, 3, 6, none},
		{api.OpAdc, c, 65535, 0, 0, api.Flags{C: true, Z: true}}, {api.OpAdc, c, 65535, 65535, 65535, api.Flags{C: true, N: true}},
		{api.OpAdc, c, 32767, 0, 32768, api.Flags{N: true, V: true}},
		{api.OpSub, none, 5, 3, 2, none}, {api.OpSub, c, 5, 3, 2, none}, {api.OpSub, c, 5, 5, 0, api.Flags{Z: true}},
		{api.OpSub, none, 0, 1, 65535, api.Flags{C: true, N: true}}, {api.OpSub, none, 32768, 1, 32767, api.Flags{V: true}},
		{api.OpSub, none, 32767, 65535, 32768, api.Flags{C: true, N: true, V: true}},
		{api.OpSbc, none, 5, 3, 2, none}, {api.OpSbc, c, 5, 3, 1, none}, {api.OpSbc, c, 5, 4, 0, api.Flags{Z: true}},
		{api.OpSbc, c, 0, 65535, 0, api.Flags{C: true, Z: true}}, {api.OpSbc, c, 5, 5, 65535, api.Flags{C: true, N: true}},
		{api.OpSbc, c, 32768, 0, 32767, api.Flags{V: true}},
	} {
		s := busy(x.before)
		s.Regs[2], s.Regs[6] = x.a, x.b
		does(t, api.Instr{Op: x.op, D: 2, S: 6}, s, func(r *api.Ran) { r.State.Regs[2], r.State.Flags = x.want, x.flags })
	}
}

// counted works out in whole numbers what must come of a and sign times b, and the carry.
func counted(a, b, carry, sign int) (int, api.Flags) {
	signed := func(x int) int {
		if x > 32767 {
			return x - 65536
		}
		return x
	}
	whole := a + sign*(b+carry)
	out := (whole + 2*65536) % 65536
	return out, api.Flags{
		C: whole > 65535 || whole < 0,
		Z: out == 0,
		N: out > 32767,
		V: signed(a)+sign*(signed(b)+carry) != signed(out),
	}
}

func TestSumsAndDifferencesAtTheEdges(t *testing.T) {
	for _, f := range fewFlags {
		carry := 0
		if f.C {
			carry = 1
		}
		for _, a := range edges {
			for _, b := range edges {
				s := busy(f)
				s.Regs[1], s.Regs[3] = a, b
				is := func(op, want int, flags api.Flags) {
					t.Helper()
					does(t, api.Instr{Op: op, D: 1, S: 3}, s, func(r *api.Ran) { r.State.Regs[1], r.State.Flags = want, flags })
				}
				out, flags := counted(a, b, 0, 1)
				is(api.OpAdd, out, flags)
				out, flags = counted(a, b, carry, 1)
				is(api.OpAdc, out, flags)
				out, flags = counted(a, b, 0, -1)
				is(api.OpSub, out, flags)
				is(api.OpCmp, a, flags)
				out, flags = counted(a, b, carry, -1)
				is(api.OpSbc, out, flags)
				flags.Z = flags.Z && f.Z
				is(api.OpCpc, a, flags)
			}
		}
	}
}

func TestARegisterWithItself(t *testing.T) {
	s := busy(api.Flags{C: true, Z: true})
	does(t, api.Instr{Op: api.OpAdd, D: 1, S: 1}, s, func(r *api.Ran) { r.State.Regs[1], r.State.Flags = 402, api.Flags{} })
	does(t, api.Instr{Op: api.OpAdc, D: 1, S: 1}, s, func(r *api.Ran) { r.State.Regs[1], r.State.Flags = 403, api.Flags{} })
	does(t, api.Instr{Op: api.OpSub, D: 1, S: 1}, s, func(r *api.Ran) { r.State.Regs[1], r.State.Flags = 0, api.Flags{Z: true} })
	does(t, api.Instr{Op: api.OpSbc, D: 1, S: 1}, s, func(r *api.Ran) { r.State.Regs[1], r.State.Flags = 65535, api.Flags{C: true, N: true} })
	does(t, api.Instr{Op: api.OpXor, D: 1, S: 1}, s, func(r *api.Ran) { r.State.Regs[1], r.State.Flags = 0, api.Flags{Z: true} })
	does(t, api.Instr{Op: api.OpCmp, D: 1, S: 1}, s, func(r *api.Ran) { r.State.Flags = api.Flags{Z: true} })
	does(t, api.Instr{Op: api.OpCpc, D: 1, S: 1}, s, func(r *api.Ran) { r.State.Flags = api.Flags{C: true, N: true} })
}

// Numbers of two words: Z tells whether both are the same, C and N with V the order.
func TestComparisonsInARow(t *testing.T) {
	for _, x := range []struct {
		low, high, otherLow, otherHigh int
		want                           api.Flags
	}{
		{5, 6, 5, 6, api.Flags{Z: true}},
		{4, 6, 5, 6, api.Flags{C: true, N: true}},
		{6, 6, 5, 6, api.Flags{}},
		{5, 7, 5, 6, api.Flags{}},
		{4, 7, 5, 6, api.Flags{}},
		{0, 0, 65535, 65535, api.Flags{C: true}},
		{0, 32768, 1, 0, api.Flags{V: true}},
	} {
		s := api.State{Regs: [8]int{x.low, x.high, x.otherLow, x.otherHigh}}
		want := s
		want.Flags, want.At = x.want, 2
		comes(t, "in a row", words(api.Instr{Op: api.OpCmp, D: 0, S: 2}, api.Instr{Op: api.OpCpc, D: 1, S: 3}, api.Instr{Op: api.OpHalt}), s, "", 9, api.Ran{How: api.RanHalt, Steps: 3, State: want})
	}
}

// bits are those of a word as text, the highest one first.
func bits(x int) string { return fmt.Sprintf("%016b", x) }

func number(text string) int {
	out := 0
	for _, c := range text {
		out = out*2 + int(c-'0')
	}
	return out
}

func bitByBit(a, b int, do func(a, b byte) bool) int {
	var out strings.Builder
	x, y := bits(a), bits(b)
	for i := range 16 {
		if do(x[i], y[i]) {
			out.WriteByte('1')
		} else {
			out.WriteByte('0')
		}
	}
	return number(out.String())
}

func TestBitByBit(t *testing.T) {
	for _, f := range fewFlags {
		for _, a := range edges {
			for _, b := range edges {
				s := busy(f)
				s.Regs[4], s.Regs[0] = a, b
				is := func(op, want int) {
					t.Helper()
					does(t, api.Instr{Op: op, D: 4, S: 0}, s, func(r *api.Ran) {
						r.State.Regs[4], r.State.Flags = want, api.Flags{Z: want == 0, N: want > 32767}
					})
				}
				is(api.OpAnd, bitByBit(a, b, func(a, b byte) bool { return a == '1' && b == '1' }))
				is(api.OpOr, bitByBit(a, b, func(a, b byte) bool { return a == '1' || b == '1' }))
				is(api.OpXor, bitByBit(a, b, func(a, b byte) bool { return a != b }))
			}
		}
	}
}

func TestBitByBitByHand(t *testing.T) {
	s := busy(api.Flags{C: true, V: true})
	s.Regs[1], s.Regs[2] = 0xf0ff, 0x8f0f
	does(t, api.Instr{Op: api.OpAnd, D: 1, S: 2}, s, func(r *api.Ran) { r.State.Regs[1], r.State.Flags = 0x800f, api.Flags{N: true} })
	does(t, api.Instr{Op: api.OpOr, D: 1, S: 2}, s, func(r *api.Ran) { r.State.Regs[1], r.State.Flags = 0xffff, api.Flags{N: true} })
	does(t, api.Instr{Op: api.OpXor, D: 1, S: 2}, s, func(r *api.Ran) { r.State.Regs[1], r.State.Flags = 0x7ff0, api.Flags{} })
	s.Regs[2] = 0x0f00
	does(t, api.Instr{Op: api.OpAnd, D: 1, S: 2}, s, func(r *api.Ran) { r.State.Regs[1], r.State.Flags = 0, api.Flags{Z: true} })
}

func TestShifts(t *testing.T) {
	for _, f := range allFlags {
		carry := "0"
		if f.C {
			carry = "1"
		}
		for _, a := range edges {
			s := busy(f)
			s.Regs[6] = a
			x := bits(a)
			is := func(op int, out string, gone byte) {
				t.Helper()
				n := number(out)
				does(t, api.Instr{Op: op, D: 6}, s, func(r *api.Ran) {
					r.State.Regs[6], r.State.Flags = n, api.Flags{C: gone == '1', Z: n == 0, N: n > 32767}
				})
			}
			is(api.OpShl, x[1:]+"0", x[0])
			is(api.OpRol, x[1:]+carry, x[0])
			is(api.OpShr, "0"+x[:15], x[15])
			is(api.OpSar, x[:1]+x[:15], x[15])
			is(api.OpRor, carry+x[:15], x[15])
		}
	}
}

func TestShiftsByHand(t *testing.T) {
	s := busy(api.Flags{C: true, V: true})
	s.Regs[2] = 32769
	does(t, api.Instr{Op: api.OpShl, D: 2}, s, func(r *api.Ran) { r.State.Regs[2], r.State.Flags = 2, api.Flags{C: true} })
	does(t, api.Instr{Op: api.OpRol, D: 2}, s, func(r *api.Ran) { r.State.Regs[2], r.State.Flags = 3, api.Flags{C: true} })
	does(t, api.Instr{Op: api.OpShr, D: 2}, s, func(r *api.Ran) { r.State.Regs[2], r.State.Flags = 16384, api.Flags{C: true} })
	does(t, api.Instr{Op: api.OpSar, D: 2}, s, func(r *api.Ran) { r.State.Regs[2], r.State.Flags = 49152, api.Flags{C: true, N: true} })
	does(t, api.Instr{Op: api.OpRor, D: 2}, s, func(r *api.Ran) { r.State.Regs[2], r.State.Flags = 49152, api.Flags{C: true, N: true} })
}

func TestJumps(t *testing.T) {
	for _, f := range allFlags {
		for _, to := range []int{0, 1, 4, 65535} {
			is := func(op int, jumps bool) {
				t.Helper()
				does(t, api.Instr{Op: op, Imm: to}, busy(f), func(r *api.Ran) {
					if jumps {
						r.State.At = to
					}
				})
			}
			is(api.OpJmp, true)
			is(api.OpJz, f.Z)
			is(api.OpJnz, !f.Z)
			is(api.OpJc, f.C)
			is(api.OpJnc, !f.C)
			is(api.OpJlt, f.N && !f.V || !f.N && f.V)
			is(api.OpJge, f.N && f.V || !f.N && !f.V)
		}
	}
}

func TestTheStack(t *testing.T) {
	for _, f := range allFlags {
		s := busy(f)
		does(t, api.Instr{Op: api.OpPush, S: 3}, s, func(r *api.Ran) { r.State.Regs[7], r.State.Mem[19] = 19, 403 })
		does(t, api.Instr{Op: api.OpPush, S: 7}, s, func(r *api.Ran) { r.State.Regs[7], r.State.Mem[19] = 19, 20 })
		does(t, api.Instr{Op: api.OpPop, D: 3}, s, func(r *api.Ran) { r.State.Regs[7], r.State.Regs[3] = 21, 70 })
		does(t, api.Instr{Op: api.OpPop, D: 7}, s, func(r *api.Ran) { r.State.Regs[7] = 70 })
		does(t, api.Instr{Op: api.OpCall, Imm: 900}, s, func(r *api.Ran) { r.State.Regs[7], r.State.Mem[19], r.State.At = 19, 5, 900 })
		does(t, api.Instr{Op: api.OpRet}, s, func(r *api.Ran) { r.State.Regs[7], r.State.At = 21, 70 })
	}
}

func TestTheStackGoesRound(t *testing.T) {
	low := busy(api.Flags{})
	low.Regs[7] = 0
	last := func(r *api.Ran, x int) {
		r.State.Regs[7] = 65535
		r.State.Mem = append(r.State.Mem, make([]int, 65536-len(r.State.Mem))...)
		r.State.Mem[65535] = x
	}
	does(t, api.Instr{Op: api.OpPush, S: 1}, low, func(r *api.Ran) { last(r, 201) })
	does(t, api.Instr{Op: api.OpCall, Imm: 9}, low, func(r *api.Ran) { last(r, 5); r.State.At = 9 })
	// What it pushes is 0, and so no word of the memory is told.
	does(t, api.Instr{Op: api.OpPush, S: 7}, low, func(r *api.Ran) { r.State.Regs[7] = 65535 })
	does(t, api.Instr{Op: api.OpPop, D: 1}, low, func(r *api.Ran) { r.State.Regs[7], r.State.Regs[1] = 1, 50 })
	does(t, api.Instr{Op: api.OpPop, D: 7}, low, func(r *api.Ran) { r.State.Regs[7] = 50 })

	high := busy(api.Flags{})
	high.Regs[7] = 65535
	high.Mem = append(high.Mem, make([]int, 65536-len(high.Mem))...)
	high.Mem[65535] = 77
	does(t, api.Instr{Op: api.OpPop, D: 1}, high, func(r *api.Ran) { r.State.Regs[7], r.State.Regs[1] = 0, 77 })
	does(t, api.Instr{Op: api.OpRet}, high, func(r *api.Ran) { r.State.Regs[7], r.State.At = 0, 77 })
	does(t, api.Instr{Op: api.OpPop, D: 7}, high, func(r *api.Ran) { r.State.Regs[7] = 77 })
	does(t, api.Instr{Op: api.OpPush, S: 7}, high, func(r *api.Ran) { r.State.Regs[7], r.State.Mem[65534] = 65534, 65535 })
}

// The place behind the last word of the code is its first one.
func TestACallFromTheEndOfTheCode(t *testing.T) {
	code := make([]int, api.MaxMem)
	copy(code[65534:], words(api.Instr{Op: api.OpCall, Imm: 7}))
	s := api.State{At: 65534, Regs: [8]int{7: 2}, Mem: []int{8, 8, 8}}
	want := api.State{At: 7, Regs: [8]int{7: 1}, Mem: []int{8, 0, 8}}
	comes(t, "OpCall", code, s, "", 1, api.Ran{How: api.RanFuel, Steps: 1, State: want})
}

func TestOut(t *testing.T) {
	for _, f := range allFlags {
		for _, x := range []struct{ word, told int }{{0, 0}, {65, 65}, {255, 255}, {256, 0}, {511, 255}, {65535, 255}, {32768 + 66, 66}} {
			s := busy(f)
			s.Regs[5] = x.word
			does(t, api.Instr{Op: api.OpOut, S: 5}, s, func(r *api.Ran) { r.Output = []byte{byte(x.told)} })
		}
	}
}

func TestIn(t *testing.T) {
	for _, f := range allFlags {
		does(t, api.Instr{Op: api.OpIn, D: 5}, busy(f), func(r *api.Ran) { r.State.Regs[5], r.State.Flags.C, r.Read = 'i', false, 1 })
		s, code := busy(f), laid(3, api.Instr{Op: api.OpIn, D: 5})
		want := s
		want.At = 4
		for _, b := range []int{0, 1, 127, 128, 255} {
			want.Regs[5], want.Flags.C = b, false
			comes(t, "a byte", code, s, string([]byte{byte(b)}), 1, api.Ran{How: api.RanFuel, Read: 1, Steps: 1, State: want})
		}
		want.Regs[5], want.Flags.C = 0, true
		comes(t, "no byte", code, s, "", 1, api.Ran{How: api.RanFuel, Steps: 1, State: want})
	}
}

// All bytes come in one by one, and behind the last one none does, however often it is asked.
func TestAllThatComesIn(t *testing.T) {
	code := words(api.Instr{Op: api.OpIn, D: 1}, api.Instr{Op: api.OpAdd, D: 2, S: 1}, api.Instr{Op: api.OpJmp})
	input := strings.Repeat("\x01", api.MaxInput)
	comes(t, "all but one", code, api.State{}, input, 3*(api.MaxInput-1), api.Ran{How: api.RanFuel, Read: api.MaxInput - 1, Steps: 3 * (api.MaxInput - 1), State: api.State{Regs: [8]int{0, 1, 65535}, Flags: api.Flags{N: true}}})
	comes(t, "all and more", code, api.State{}, input, 3*(api.MaxInput+5), api.Ran{How: api.RanFuel, Read: api.MaxInput, Steps: 3 * (api.MaxInput + 5), State: api.State{Flags: api.Flags{Z: true}}})
}

// Two steps a byte: the one that would tell a byte more ends the run, and counts.
func TestTooMuchIsTold(t *testing.T) {
	code := words(api.Instr{Op: api.OpOut, S: 1}, api.Instr{Op: api.OpJmp})
	s := api.State{Regs: [8]int{0, 65}, Flags: api.Flags{C: true}, Mem: []int{1}}
	all := []byte(strings.Repeat("A", api.MaxTold))
	comes(t, "as much as may be", code, s, "", 2*api.MaxTold, api.Ran{How: api.RanFuel, Output: all, Steps: 2 * api.MaxTold, State: s})
	comes(t, "one more", code, s, "", 2*api.MaxTold+1, api.Ran{How: api.RanMuch, Output: all, Steps: 2*api.MaxTold + 1, State: s})
	comes(t, "with time left", code, s, "", api.MaxFuel, api.Ran{How: api.RanMuch, Output: all, Steps: 2*api.MaxTold + 1, State: s})
}
