package rt

import (
	"math/big"
	"slices"
	"testing"

	"pairlegal/api"
	"pairlegal/emu"
	"pairlegal/link"
)

const (
	maxSteps = 20000
	room     = 64 // words ahead of SP
	memory   = 65536
)

// call is a routine, where its numbers lie, and what they are.
type call struct {
	name  string
	at    layout
	a, b  uint64
	image api.Image
	from  int    // the place of the OpCall
	seed  uint32 // of what other registers, and flags, have ahead
	mem   []int  // wild, but where the numbers lie
}

// layout is where A, B and SP are.
type layout struct{ a, b, sp int }

func kindOf(name string) string { return name[:len(name)-1] }

func wordsOf(name string) int { return int(name[len(name)-1] - '0') }

// wordsOfB: shifts have one word that says by how many places.
func wordsOfB(name string) int {
	if shifts(name) {
		return 1
	}
	return wordsOf(name)
}

func shifts(name string) bool { return slices.Contains([]string{"shl", "shr", "sar"}, kindOf(name)) }

func divides(name string) bool {
	return slices.Contains([]string{"udiv", "urem", "sdiv", "srem"}, kindOf(name))
}

// wanted is what F3 says, worked out by numbers without a width.
func wanted(name string, a, b uint64) uint64 {
	w := uint(16 * wordsOf(name))
	x, y := new(big.Int).SetUint64(a), new(big.Int).SetUint64(b)
	switch kindOf(name) {
	case "sdiv", "srem":
		x, y = withSign(x, w), withSign(y, w)
	case "sar":
		x = withSign(x, w)
	}
	switch kindOf(name) {
	case "mul":
		x.Mul(x, y)
	case "udiv", "sdiv":
		x.Quo(x, y)
	case "urem", "srem":
		x.Rem(x, y)
	case "shl":
		x.Lsh(x, uint(b))
	case "shr", "sar":
		x.Rsh(x, uint(b))
	}
	return x.And(x, new(big.Int).SetUint64(cut(^uint64(0), w))).Uint64()
}

func cut(x uint64, bits uint) uint64 { return x & (1<<bits - 1) }

func withSign(x *big.Int, w uint) *big.Int {
	if x.Bit(int(w-1)) == 1 {
		x.Sub(x, new(big.Int).Lsh(big.NewInt(1), w))
	}
	return x
}

// wild is a row of numbers that look like nothing, the same whenever it is asked.
func wild(seed *uint32) int {
	*seed ^= *seed << 13
	*seed ^= *seed >> 17
	*seed ^= *seed << 5
	return int(*seed >> 16)
}

func wildNumber(seed *uint32) uint64 {
	var x uint64
	for range 4 {
		x = x<<16 | uint64(wild(seed))
	}
	return x
}

// wildMemory has something everywhere, so that a word that is changed, or taken for 0, is seen.
var wildMemory = func() []int {
	seed := uint32(2463534242)
	mem := make([]int, memory)
	for k := range mem {
		mem[k] = wild(&seed)
	}
	return mem
}()

func lay(mem []int, place, words int, x uint64) {
	for k := range words {
		mem[place+k] = int(x >> (16 * k) & 65535)
	}
}

func (c call) state() api.State {
	seed := c.seed*2 + 1
	s := api.State{At: c.from, Mem: c.mem}
	for k := range s.Regs {
		s.Regs[k] = wild(&seed)
	}
	bits := wild(&seed)
	s.Flags = api.Flags{C: bits&1 > 0, Z: bits&2 > 0, N: bits&4 > 0, V: bits&8 > 0}
	s.Regs[0], s.Regs[1], s.Regs[7] = c.at.a, c.at.b, c.at.sp
	return s
}

// try runs a call, and holds all that F2 and F3 say of it.
func (c call) try(t *testing.T) {
	t.Helper()
	lay(c.mem, c.at.a, wordsOf(c.name), c.a)
	lay(c.mem, c.at.b, wordsOfB(c.name), c.b)
	defer c.wildAgain()
	ran, err := emu.Run(c.image.Words, c.state(), []byte("some bytes"), maxSteps)
	if err != api.OK {
		t.Fatalf("%s: %d", c.name, err)
	}
	if len(ran.Output) > 0 || ran.Read != 0 {
		t.Errorf("%s of %d and %d tells %d bytes, and takes %d in", c.name, c.a, c.b, len(ran.Output), ran.Read)
	}
	if divides(c.name) && c.b == 0 {
		if ran.How != api.RanTrap || ran.Trap != 1 {
			t.Errorf("%s of %d and 0 ends by %d, trap %d", c.name, c.a, ran.How, ran.Trap)
		}
		c.same(t, ran.State.Mem)
		return
	}
	if ran.How != api.RanHalt || ran.State.At != c.from+2 || ran.State.Regs[7] != c.at.sp {
		t.Errorf("%s of %d and %d at %v: ended by %d (trap %d) after %d steps, at %d, register 7 at %d",
			c.name, c.a, c.b, c.at, ran.How, ran.Trap, ran.Steps, ran.State.At, ran.State.Regs[7])
		return
	}
	lay(c.mem, c.at.a, wordsOf(c.name), wanted(c.name, c.a, c.b))
	c.same(t, ran.State.Mem)
}

// wildAgain takes the numbers away, so that the next call finds the memory as this one did.
func (c call) wildAgain() {
	copy(c.mem[c.at.a:], wildMemory[c.at.a:c.at.a+wordsOf(c.name)])
	copy(c.mem[c.at.b:], wildMemory[c.at.b:c.at.b+wordsOfB(c.name)])
}

// same holds what came against the memory as it should be, but for the words ahead of SP.
func (c call) same(t *testing.T, got []int) {
	t.Helper()
	got = append(got, make([]int, memory-len(got))...)
	for k := range room {
		at := (c.at.sp - room + k + memory) % memory
		got[at] = c.mem[at]
	}
	if slices.Equal(got, c.mem) {
		return
	}
	for k := range got {
		if got[k] != c.mem[k] {
			t.Errorf("%s of %d and %d at %v: the word at %d is %d, not %d", c.name, c.a, c.b, c.at, k, got[k], c.mem[k])
			return
		}
	}
}

// tries runs what is handed to it for each routine, side by side.
func tries(t *testing.T, each func(t *testing.T, c call)) {
	image := allCalled(t)
	for _, spot := range image.Spots {
		name, calls := cutPrefix(spot.Name)
		if !calls {
			continue
		}
		t.Run(name, func(t *testing.T) {
			t.Parallel()
			each(t, call{name: name, image: image, from: spot.At, at: layout{a: 20000, b: 30000, sp: 40000}, mem: slices.Clone(wildMemory)})
		})
	}
}

func cutPrefix(label string) (string, bool) {
	if len(label) > 3 && label[:3] == "at_" {
		return label[3:], true
	}
	return "", false
}

// edges are numbers of so many bits at which something turns.
func edges(bits uint) []uint64 {
	list := []uint64{0, 1, 2, 3, 10, 255, 257, 12345}
	for _, b := range []uint{15, 16, 31, 32, 47, 48, 63} {
		list = append(list, 1<<b-1, 1<<b)
	}
	for k := range list {
		list = append(list, -list[k])
	}
	list = append(list, 0x5555555555555555, 0xaaaaaaaaaaaaaaaa, 0x0123456789abcdef, 0xffff0000ffff0000, 0x8000800080008000)
	for k := range list {
		list[k] = cut(list[k], bits)
	}
	slices.Sort(list)
	return slices.Compact(list)
}

// places are by how many bits A is shifted: each that it has, and those at which something turns.
func places(name string) []uint64 {
	var list []uint64
	for k := range 16*wordsOf(name) + 4 {
		list = append(list, uint64(k))
	}
	return append(list, 127, 128, 255, 256, 4096, 32767, 32768, 65472, 65535)
}

func secondNumbers(name string) []uint64 {
	if shifts(name) {
		return places(name)
	}
	return edges(uint(16 * wordsOf(name)))
}

// F2, F3

func TestEdges(t *testing.T) {
	tries(t, func(t *testing.T, c call) {
		for _, a := range edges(uint(16 * wordsOf(c.name))) {
			for _, b := range secondNumbers(c.name) {
				c.a, c.b = a, b
				c.seed++
				c.try(t)
			}
		}
	})
}

func TestWildNumbers(t *testing.T) {
	tries(t, func(t *testing.T, c call) {
		seed := uint32(88172645)
		for range 300 {
			// Numbers of all lengths, since wild ones are nearly all long.
			c.a = cut(wildNumber(&seed)>>(wild(&seed)%64), uint(16*wordsOf(c.name)))
			c.b = cut(wildNumber(&seed)>>(wild(&seed)%64), uint(16*wordsOfB(c.name)))
			c.seed++
			c.try(t)
		}
	})
}

// TestByHand has what must come written out, so that it hangs on no other code.
func TestByHand(t *testing.T) {
	image := allCalled(t)
	for _, x := range []struct {
		name       string
		a, b, want uint64
	}{
		{"mul1", 300, 300, 24464},
		{"mul2", 65536, 65536, 0},
		{"mul2", 0xffffffff, 0xffffffff, 1},
		{"mul4", 0x100000001, 0x100000003, 0x400000003},
		{"udiv1", 65535, 10, 6553},
		{"urem1", 65535, 10, 5},
		{"udiv2", 0xffffffff, 0x80000001, 1},
		{"urem2", 0xffffffff, 0x80000001, 0x7ffffffe},
		{"udiv4", 0xffffffffffffffff, 0xfffffffffffffffe, 1},
		{"urem4", 1000000000000000003, 1000000000, 3},
		{"sdiv1", 65529, 2, 65533},
		{"srem1", 65529, 2, 65535},
		{"sdiv1", 7, 65534, 65533},
		{"srem1", 7, 65534, 1},
		{"sdiv1", 32768, 65535, 32768},
		{"srem1", 32768, 65535, 0},
		{"sdiv2", 0x80000000, 0xffffffff, 0x80000000},
		{"srem2", 0x80000000, 0xffffffff, 0},
		{"sdiv4", 1 << 63, ^uint64(0), 1 << 63},
		{"srem4", 1 << 63, ^uint64(0), 0},
		{"sdiv4", ^uint64(0), 1 << 63, 0},
		{"srem4", ^uint64(0), 1 << 63, ^uint64(0)},
		{"shl1", 3, 15, 32768},
		{"shl1", 3, 16, 0},
		{"shl2", 3, 31, 0x80000000},
		{"shl4", 3, 64, 0},
		{"shl4", 3, 65535, 0},
		{"shr1", 32768, 15, 1},
		{"shr1", 32768, 16, 0},
		{"shr4", 1 << 63, 63, 1},
		{"shr4", 1 << 63, 64, 0},
		{"sar1", 32768, 15, 65535},
		{"sar1", 32768, 16, 65535},
		{"sar2", 0x80000000, 4, 0xf8000000},
		{"sar4", 1 << 63, 65535, ^uint64(0)},
		{"sar4", 1<<63 - 1, 65535, 0},
	} {
		if got := wanted(x.name, x.a, x.b); got != x.want {
			t.Errorf("%s of %d and %d should be %d, not %d", x.name, x.a, x.b, x.want, got)
		}
		c := call{name: x.name, image: image, from: spotAt(image, "at_"+x.name), at: layout{a: 10, b: 20, sp: 1000}, a: x.a, b: x.b, mem: slices.Clone(wildMemory)}
		c.try(t)
	}
}

func spotAt(image api.Image, label string) int {
	for _, s := range image.Spots {
		if s.Name == label {
			return s.At
		}
	}
	return -1
}

func TestByNought(t *testing.T) {
	tries(t, func(t *testing.T, c call) {
		if !divides(c.name) {
			return
		}
		for _, a := range []uint64{0, 1, 1 << (16*wordsOf(c.name) - 1), cut(^uint64(0), uint(16*wordsOf(c.name)))} {
			for _, at := range layouts(wordsOf(c.name), wordsOfB(c.name)) {
				c.a, c.at = a, at
				c.seed++
				c.try(t)
			}
		}
	})
}

// layouts are places at both ends of memory, and such that touch each other; a, b: of how many words the numbers are.
func layouts(a, b int) []layout {
	const end, mid = memory, 30000
	return []layout{
		{0, end - b, 1000}, // the numbers at both ends
		{end - a, 0, 1000},
		{0, a, 1000}, // both at the beginning
		{b, 0, 1000},
		{end - a - b, end - b, 1000}, // both at the end
		{end - a, end - a - b, 1000},
		{room, room + a, room}, // the stack at the beginning, and one behind the other
		{room + b, room, room},
		{end - room - a, end - room - a - b, 0}, // the stack at the end: register 7 is 0
		{end - room - a - b, end - room - b, 0},
		{0, end - room - b, 0}, // and a number where register 7 points
		{end - room - a, 0, 0},
		{end - 1 - room - a, end - 1 - room - a - b, end - 1},
		{500, 500 + a, 700}, // the numbers touch each other alone
		{500 + b, 500, 700},
		{mid, mid - room - b, mid}, // the stack between them
		{mid - room - a, mid, mid},
		{mid - room - a, mid - room - a - b, mid}, // both ahead of it
		{mid - room - a - b, mid - room - b, mid},
		{mid, mid + a, mid}, // both behind it
		{mid + b, mid, mid},
	}
}

// TestLayouts: the layouts are such that F2 speaks of: a slip among them would prove nothing.
func TestLayouts(t *testing.T) {
	for _, a := range []int{1, 2, 4} {
		for _, b := range []int{1, a} {
			for _, at := range layouts(a, b) {
				taken := make([]int, memory)
				for k := range room {
					taken[(at.sp-room+k+memory)%memory]++
				}
				for k := range a {
					taken[at.a+k]++
				}
				for k := range b {
					taken[at.b+k]++
				}
				if slices.Max(taken) > 1 {
					t.Errorf("%v of %d and %d words: one lies over another", at, a, b)
				}
			}
		}
	}
}

func TestPlaces(t *testing.T) {
	for _, name := range allNames {
		t.Run(name, func(t *testing.T) {
			t.Parallel()
			c := alone(t, name)
			for k, at := range layouts(wordsOf(name), wordsOfB(name)) {
				seed := uint32(k + 1)
				for range 5 {
					c.at = at
					c.a = cut(wildNumber(&seed), uint(16*wordsOf(name)))
					c.b = cut(wildNumber(&seed), uint(16*wordsOfB(name)))
					if shifts(name) {
						c.b %= uint64(16 * wordsOf(name))
					}
					c.seed++
					c.try(t)
				}
			}
		})
	}
}

// alone is a call of a routine that is linked with nothing but what it needs.
func alone(t *testing.T, name string) call {
	t.Helper()
	main := []api.Line{{Label: "main"}, {Ins: api.Instr{Op: api.OpCall}, Ref: name}, {Ins: api.Instr{Op: api.OpHalt}}}
	image, fault := link.Link(append(Units(), api.Unit{Lines: main}), "main")
	if fault != (api.Fault{}) {
		t.Fatalf("%s: %v", name, fault)
	}
	return call{name: name, image: image, mem: slices.Clone(wildMemory)}
}
