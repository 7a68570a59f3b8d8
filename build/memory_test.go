package build

import (
	"fmt"
	"testing"

	"pairlegal/api"
	"pairlegal/eval"
)

// heavy is a program whose calls lay much aside: g calls itself so many times, each time from within the last kid of so many calls of h, one within the other, each with seven numbers of four words that are worked out ahead. From there the last one calls last, which lays something aside, too, and needs a routine. In front of the stack lies an array of that size, whose last numbers are told in the end.
func heavy(levels, size, calls int) string {
	inner := "n == 0 && last(s) || n && g()"
	for range levels {
		inner = "h(c(), s, s, s, s, s, s, " + inner + ")"
	}
	deep := "a / 3u"
	for range 30 {
		deep = "s ^ (" + deep + ")"
	}
	return fmt.Sprintf("i16 n = %d; u64 s = 1u; u16 guard[%d] = {1}; ", calls, size) +
		"u64 c() { s = s + s ^ 5u; return s; } " +
		"u64 h(u64 a, u64 b, u64 d, u64 e, u64 g, u64 h, u64 i, u64 j) { return a + b + d + e + g + h + i + j; } " +
		"u64 last(u64 a) { return " + deep + "; } " +
		"u64 g() { n = n - 1; put(n); return 1u + " + inner + "; } " +
		fmt.Sprintf("void main() { u64 r; guard[%d] = 777; guard[%d] = 555; r = g(); put(r); put(r >> 8); put(r >> 56); put(guard[%d]); put(guard[%d]); put(guard[%d] >> 8); }", size-1, size-2, size-1, size-2, size-1)
}

// TestFullMemory: a stack that has not room enough for what is laid aside does no harm: the run does what the program means, or ends for want of fuel, having told what comes first.
func TestFullMemory(t *testing.T) {
	for _, levels := range []int{5, 20, 30, 36, 37, 38, 40, 41, 42} {
		p := read(t, heavy(levels, 100, 58))
		r, same := does(t, p, "")
		if fits := levels <= 38; same != fits || !fits && r.How != api.RanFuel {
			t.Errorf("%d levels: %s comes", levels, brief(r.How, r.Trap, r.Read, r.Steps, r.Output))
		}
	}
}

// TestTheEdgeOfMemory: with more and more words in front of the stack there is a first size with which it has no room; with each one ahead of that nothing is lost.
func TestTheEdgeOfMemory(t *testing.T) {
	fits := func(size int) bool {
		p := read(t, heavy(36, size, 58))
		told, _ := eval.Run(p, nil, api.MaxTicks)
		if told.How != api.RanHalt {
			t.Fatalf("%s is meant", brief(told.How, told.Trap, told.Read, told.Ticks, told.Output))
		}
		r := ran(t, p, built(t, p), told, "", api.MaxFuel)
		return r.How == api.RanHalt
	}
	least, most := 100, api.MaxGlobals-20
	if !fits(least) || fits(most) {
		t.Fatal("the edge is not where it is looked for")
	}
	for most-least > 1 {
		if mid := (least + most) / 2; fits(mid) {
			least = mid
		} else {
			most = mid
		}
	}
	t.Logf("%d words are the most", least)
	for size := least - 8; size <= least+8; size++ {
		if fits(size) != (size <= least) {
			t.Errorf("%d words, and the edge lies at %d", size, least)
		}
	}
}

// TestAllThatIsDeclared: the most that may be declared finds room in as many calls as may be open.
func TestAllThatIsDeclared(t *testing.T) {
	text := "u64 big[1999]; i16 n; i16 m; void f() { n = n + 1; " + declared(api.MaxFrame/4) + " v0 = n; v49 = n * 3; big[1998] = big[1998] + v49; if (n < 59) f(); put(v0); put(v49); put(v20); m = m + 1; } void main() { f(); put(m); put(big[1998]); put(big[1998] >> 8); put(big[1997]); }"
	r := comesToEnd(t, read(t, text), "")
	if r.How != api.RanHalt || len(r.Output) != 3*59+4 {
		t.Errorf("%s comes", brief(r.How, r.Trap, r.Read, r.Steps, r.Output))
	}
}
