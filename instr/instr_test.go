package instr

import (
	"slices"
	"strconv"
	"testing"

	"pairlegal/api"
)

const (
	lowest  = -1 << 63
	highest = 1<<63 - 1
)

// kinds is the document's list, kind by kind: d, s and i for the fields that it has.
var kinds = []struct {
	op  int
	has string
}{
	{api.OpHalt, ""}, {api.OpMov, "ds"}, {api.OpLdi, "di"}, {api.OpLd, "dsi"}, {api.OpSt, "dsi"},
	{api.OpAdd, "ds"}, {api.OpAdc, "ds"}, {api.OpSub, "ds"}, {api.OpSbc, "ds"},
	{api.OpAnd, "ds"}, {api.OpOr, "ds"}, {api.OpXor, "ds"}, {api.OpCmp, "ds"}, {api.OpCpc, "ds"},
	{api.OpShl, "d"}, {api.OpRol, "d"}, {api.OpShr, "d"}, {api.OpSar, "d"}, {api.OpRor, "d"},
	{api.OpJmp, "i"}, {api.OpJz, "i"}, {api.OpJnz, "i"}, {api.OpJc, "i"}, {api.OpJnc, "i"}, {api.OpJlt, "i"}, {api.OpJge, "i"},
	{api.OpCall, "i"}, {api.OpRet, ""}, {api.OpPush, "s"}, {api.OpPop, "d"}, {api.OpOut, "s"}, {api.OpIn, "d"}, {api.OpTrap, "i"},
}

var noKinds = []int{lowest, -65536, -32, -2, -1, 33, 34, 63, 64, 65, 1024, 65536, 1 << 32, 1<<32 + 1, highest}

var noRegisters = []int{lowest, -65536, -8, -1, 8, 9, 15, 16, 128, 65536, 1<<32 + 1, highest}

var noWords = []int{lowest, -65536, -1, 65536, 65537, 1<<32 + 5, highest}

func has(fields string, f byte) bool { return slices.Contains([]byte(fields), f) }

func wordsOf(fields string) int {
	if has(fields, 'i') {
		return 2
	}
	return 1
}

func named(i api.Instr) string {
	return strconv.Itoa(i.Op) + " " + strconv.Itoa(i.D) + " " + strconv.Itoa(i.S) + " " + strconv.Itoa(i.Imm)
}

func isWrong(t *testing.T, i api.Instr, want api.Errno) {
	t.Helper()
	if err := Wrong(i); err != want {
		t.Errorf("Wrong(%s): %d comes, not %d", named(i), err, want)
	}
}

func encodes(t *testing.T, l []api.Instr, want []int) {
	t.Helper()
	if got, f := Encode(l); !slices.Equal(got, want) || f != (api.Fault{}) {
		t.Errorf("Encode(%v): %v, %v comes, not %v", l, got, f, want)
	}
}

func failsToEncode(t *testing.T, l []api.Instr, err api.Errno, at int) {
	t.Helper()
	if got, f := Encode(l); len(got) != 0 || f.Err != err || f.At != at {
		t.Errorf("Encode of %d: %d words, %v comes, not %d at %d", len(l), len(got), f, err, at)
	}
}

func decodes(t *testing.T, words []int, want []api.Instr) {
	t.Helper()
	if got, f := Decode(words); !slices.Equal(got, want) || f != (api.Fault{}) {
		t.Errorf("Decode(%v): %v, %v comes, not %v", words, got, f, want)
	}
}

func failsToDecode(t *testing.T, words []int, err api.Errno, at int) {
	t.Helper()
	if got, f := Decode(words); len(got) != 0 || f.Err != err || f.At != at {
		t.Errorf("Decode of %d: %d instructions, %v comes, not %d at %d", len(words), len(got), f, err, at)
	}
}

func isOne(t *testing.T, words []int, at int, want api.Instr, long int) {
	t.Helper()
	if got, n := One(words, at); got != want || n != long {
		t.Errorf("One(%v, %d): %v, %d comes, not %v, %d", words, at, got, n, want, long)
	}
}

func isNone(t *testing.T, words []int, at int) {
	t.Helper()
	isOne(t, words, at, api.Instr{}, 0)
}

// B1

func TestFieldsOfEachKind(t *testing.T) {
	if len(kinds) != 33 {
		t.Fatalf("%d kinds, not 33", len(kinds))
	}
	for at, k := range kinds {
		if k.op != at {
			t.Fatalf("kind %d stands at %d", k.op, at)
		}
		d, s, imm, err := Uses(k.op)
		if d != has(k.has, 'd') || s != has(k.has, 's') || imm != has(k.has, 'i') || err != api.OK {
			t.Errorf("Uses(%d): %v %v %v %d comes, not %q", k.op, d, s, imm, err, k.has)
		}
		if n, err := Long(k.op); n != wordsOf(k.has) || err != api.OK {
			t.Errorf("Long(%d): %d, %d comes, not %d", k.op, n, err, wordsOf(k.has))
		}
	}
}

func TestNoSuchKind(t *testing.T) {
	for _, op := range noKinds {
		if d, s, imm, err := Uses(op); d || s || imm || err != api.ErrKind {
			t.Errorf("Uses(%d): %v %v %v %d comes", op, d, s, imm, err)
		}
		if n, err := Long(op); n != 0 || err != api.ErrKind {
			t.Errorf("Long(%d): %d, %d comes", op, n, err)
		}
		isWrong(t, api.Instr{Op: op}, api.ErrKind)
		isWrong(t, api.Instr{Op: op, D: 8, S: -1, Imm: 65536}, api.ErrKind)
	}
}

func TestNothingIsWrongAtTheEdges(t *testing.T) {
	for _, k := range kinds {
		for _, r := range []int{0, 1, 6, 7} {
			for _, imm := range []int{0, 1, 32768, 65534, 65535} {
				isWrong(t, api.Instr{Op: k.op, D: r, S: 7 - r, Imm: imm}, api.OK)
			}
		}
	}
}

// A field that the kind has not may hold anything; one that it has is wrong alone, too.
func TestWhatIsOutOfRange(t *testing.T) {
	for _, k := range kinds {
		rangeIf := func(f byte) api.Errno {
			if has(k.has, f) {
				return api.ErrRange
			}
			return api.OK
		}
		for _, r := range noRegisters {
			isWrong(t, api.Instr{Op: k.op, D: r}, rangeIf('d'))
			isWrong(t, api.Instr{Op: k.op, S: r}, rangeIf('s'))
		}
		for _, x := range noWords {
			isWrong(t, api.Instr{Op: k.op, Imm: x}, rangeIf('i'))
		}
	}
}

// B2

func TestWordsByHand(t *testing.T) {
	for _, c := range []struct {
		i     api.Instr
		words []int
	}{
		{api.Instr{Op: api.OpHalt}, []int{0}},
		{api.Instr{Op: api.OpMov, D: 1, S: 2}, []int{1184}},
		{api.Instr{Op: api.OpMov, D: 7, S: 7}, []int{2032}},
		{api.Instr{Op: api.OpLdi, D: 3, Imm: 7}, []int{2432, 7}},
		{api.Instr{Op: api.OpLdi, D: 7, Imm: 65535}, []int{2944, 65535}},
		{api.Instr{Op: api.OpLd, D: 1, S: 2, Imm: 3}, []int{3232, 3}},
		{api.Instr{Op: api.OpSt, D: 7, S: 0, Imm: 0}, []int{4992, 0}},
		{api.Instr{Op: api.OpShl, D: 5}, []int{14976}},
		{api.Instr{Op: api.OpJmp, Imm: 0}, []int{19456, 0}},
		{api.Instr{Op: api.OpRet}, []int{27648}},
		{api.Instr{Op: api.OpPush, S: 6}, []int{28768}},
		{api.Instr{Op: api.OpPop, D: 6}, []int{30464}},
		{api.Instr{Op: api.OpTrap, Imm: 2}, []int{32768, 2}},
	} {
		encodes(t, []api.Instr{c.i}, c.words)
		decodes(t, c.words, []api.Instr{c.i})
		isOne(t, c.words, 0, c.i, len(c.words))
	}
}

// clean leaves of an instruction the fields that its kind has.
func clean(i api.Instr, fields string) api.Instr {
	out := api.Instr{Op: i.Op}
	if has(fields, 'd') {
		out.D = i.D
	}
	if has(fields, 's') {
		out.S = i.S
	}
	if has(fields, 'i') {
		out.Imm = i.Imm
	}
	return out
}

func TestEachKindThereAndBack(t *testing.T) {
	for _, k := range kinds {
		for _, imm := range []int{0, 1, 27648, 65535} {
			for r := range 64 {
				i := api.Instr{Op: k.op, D: r / 8, S: r % 8, Imm: imm}
				c := clean(i, k.has)
				words := []int{k.op*1024 + c.D*128 + c.S*16, c.Imm}[:wordsOf(k.has)]
				encodes(t, []api.Instr{i}, words)
				decodes(t, words, []api.Instr{c})
			}
		}
	}
}

func TestFieldsThatItHasNotLeaveNothing(t *testing.T) {
	for _, k := range kinds {
		i := api.Instr{Op: k.op}
		want := []int{k.op * 1024, 0}[:wordsOf(k.has)]
		for _, x := range []int{lowest, -1, 9, 65536, highest} {
			if !has(k.has, 'd') {
				i.D = x
			}
			if !has(k.has, 's') {
				i.S = x
			}
			if !has(k.has, 'i') {
				i.Imm = x
			}
			encodes(t, []api.Instr{i}, want)
		}
	}
}

func TestEncodeTellsTheFirstThatIsWrong(t *testing.T) {
	fine := api.Instr{Op: api.OpRet}
	kind := api.Instr{Op: 33, D: 8}
	outside := api.Instr{Op: api.OpMov, D: 8}
	failsToEncode(t, []api.Instr{kind}, api.ErrKind, 0)
	failsToEncode(t, []api.Instr{outside}, api.ErrRange, 0)
	failsToEncode(t, []api.Instr{fine, outside, kind}, api.ErrRange, 1)
	failsToEncode(t, []api.Instr{fine, {Op: api.OpJmp, Imm: 1}, kind, outside}, api.ErrKind, 2)
	failsToEncode(t, []api.Instr{{Op: api.OpSt, Imm: 65536}}, api.ErrRange, 0)
	failsToEncode(t, []api.Instr{{Op: api.OpPush, S: -1}}, api.ErrRange, 0)
}

func repeated(i api.Instr, n int, more ...api.Instr) []api.Instr {
	return append(slices.Repeat([]api.Instr{i}, n), more...)
}

func TestEncodeOfTooMuch(t *testing.T) {
	short := api.Instr{Op: api.OpRet}
	long := api.Instr{Op: api.OpJmp, Imm: 5}
	bad := api.Instr{Op: -1}
	for _, l := range [][]api.Instr{
		repeated(short, api.MaxMem),
		repeated(long, api.MaxMem/2),
		repeated(short, api.MaxMem-2, long),
	} {
		if words, f := Encode(l); len(words) != api.MaxMem || f != (api.Fault{}) {
			t.Errorf("%d words, %v comes", len(words), f)
		}
	}
	failsToEncode(t, repeated(short, api.MaxMem+1), api.ErrMuch, api.MaxMem)
	failsToEncode(t, repeated(long, api.MaxMem/2+1), api.ErrMuch, api.MaxMem/2)
	failsToEncode(t, repeated(short, api.MaxMem-1, long), api.ErrMuch, api.MaxMem-1)
	failsToEncode(t, repeated(short, api.MaxMem, bad), api.ErrKind, api.MaxMem)
	failsToEncode(t, repeated(short, api.MaxMem, api.Instr{Op: api.OpJmp, Imm: -1}), api.ErrRange, api.MaxMem)
	failsToEncode(t, repeated(short, api.MaxMem+1, bad), api.ErrMuch, api.MaxMem)
	failsToEncode(t, repeated(short, api.MaxMem-1, bad, short, short), api.ErrKind, api.MaxMem-1)
}

// Every first word there is: it begins an instruction just if some instruction becomes it.
func TestEveryFirstWord(t *testing.T) {
	want := map[int]api.Instr{}
	for _, k := range kinds {
		for r := range 64 {
			i := clean(api.Instr{Op: k.op, D: r / 8, S: r % 8, Imm: 12}, k.has)
			want[i.Op*1024+i.D*128+i.S*16] = i
		}
	}
	for w := range 65536 {
		i, there := want[w]
		long := 0
		if there {
			long = wordsOf(kinds[i.Op].has)
		}
		isOne(t, []int{w, 12}, 0, i, long)
	}
}

func TestOneIsNoneOutsideOfTheWords(t *testing.T) {
	words := []int{27648, 19456, 7, 0}
	isOne(t, words, 0, api.Instr{Op: api.OpRet}, 1)
	isOne(t, words, 1, api.Instr{Op: api.OpJmp, Imm: 7}, 2)
	isNone(t, words, 2)
	isOne(t, words, 3, api.Instr{Op: api.OpHalt}, 1)
	for _, at := range []int{lowest, -2, -1, 4, 5, 65536, highest} {
		isNone(t, words, at)
	}
	for _, at := range []int{lowest, -1, 0, 1, highest} {
		isNone(t, nil, at)
		isNone(t, []int{}, at)
	}
}

func TestOneIsNoneIfItsWordsEndTooEarly(t *testing.T) {
	for _, k := range kinds {
		w := k.op * 1024
		if has(k.has, 'i') {
			isNone(t, []int{w}, 0)
			isNone(t, []int{0, w}, 1)
			failsToDecode(t, []int{0, w}, api.ErrForm, 1)
			isOne(t, []int{0, w, 9}, 1, api.Instr{Op: k.op, Imm: 9}, 2)
		} else {
			isOne(t, []int{w}, 0, api.Instr{Op: k.op}, 1)
			isOne(t, []int{0, w}, 1, api.Instr{Op: k.op}, 1)
		}
	}
}

func TestOneIsNoneOfWhatAreNoWords(t *testing.T) {
	for _, x := range noWords {
		isNone(t, []int{x, 0}, 0)
		isNone(t, []int{2048, x}, 0)
		isNone(t, []int{19456, x, 0}, 0)
		isOne(t, []int{27648, x}, 0, api.Instr{Op: api.OpRet}, 1)
		isOne(t, []int{19456, 5, x}, 0, api.Instr{Op: api.OpJmp, Imm: 5}, 2)
		failsToDecode(t, []int{27648, x}, api.ErrForm, 1)
		failsToDecode(t, []int{27648, 19456, x}, api.ErrForm, 1)
		failsToDecode(t, []int{19456, 5, x}, api.ErrForm, 2)
	}
	isOne(t, []int{19456, 0}, 0, api.Instr{Op: api.OpJmp}, 2)
	isOne(t, []int{19456, 65535}, 0, api.Instr{Op: api.OpJmp, Imm: 65535}, 2)
}

// One has no bound on how many words it is given; only Decode has.
func TestOneBehindMaxMem(t *testing.T) {
	words := make([]int, api.MaxMem+2)
	words[api.MaxMem], words[api.MaxMem+1] = 19456, 3
	isOneOfMany := func(at int, want api.Instr, long int) {
		t.Helper()
		if i, n := One(words, at); i != want || n != long {
			t.Errorf("at %d %v, %d comes", at, i, n)
		}
	}
	isOneOfMany(api.MaxMem-1, api.Instr{}, 1)
	isOneOfMany(api.MaxMem, api.Instr{Op: api.OpJmp, Imm: 3}, 2)
	isOneOfMany(api.MaxMem+1, api.Instr{}, 0)
}

func TestDecodeOneBehindTheOther(t *testing.T) {
	decodes(t, []int{2432, 7, 19456, 0, 1184, 0}, []api.Instr{
		{Op: api.OpLdi, D: 3, Imm: 7}, {Op: api.OpJmp}, {Op: api.OpMov, D: 1, S: 2}, {Op: api.OpHalt},
	})
	decodes(t, []int{19456, 33 * 1024}, []api.Instr{{Op: api.OpJmp, Imm: 33 * 1024}})
	decodes(t, nil, nil)
	decodes(t, []int{}, nil)
	encodes(t, nil, nil)
	encodes(t, []api.Instr{}, nil)
}

// The place is a word's, not an instruction's; and the first one is told.
func TestDecodeTellsTheFirstWordWithoutOne(t *testing.T) {
	failsToDecode(t, []int{1}, api.ErrForm, 0)
	failsToDecode(t, []int{-1}, api.ErrForm, 0)
	failsToDecode(t, []int{33 * 1024}, api.ErrForm, 0)
	failsToDecode(t, []int{63 * 1024}, api.ErrForm, 0)
	failsToDecode(t, []int{19456, 7, 27648 + 128, 1}, api.ErrForm, 2)
	failsToDecode(t, []int{19456, 7, 0, 2048 + 16, 5, 1}, api.ErrForm, 3)
	failsToDecode(t, []int{19456, 7, 28672 + 128}, api.ErrForm, 2)
	failsToDecode(t, []int{19456, 7, 19456}, api.ErrForm, 2)
}

func TestDecodeOfTooMuch(t *testing.T) {
	words := make([]int, api.MaxMem+1)
	if l, f := Decode(words[:api.MaxMem]); len(l) != api.MaxMem || f != (api.Fault{}) {
		t.Errorf("%d, %v comes", len(l), f)
	}
	failsToDecode(t, words, api.ErrMuch, 0)
	words[5] = 1
	failsToDecode(t, words, api.ErrMuch, 0)
	failsToDecode(t, words[:api.MaxMem], api.ErrForm, 5)
	words[5], words[api.MaxMem-1] = 0, 19456
	failsToDecode(t, words[:api.MaxMem], api.ErrForm, api.MaxMem-1)
}

// Z2

func TestWhatIsHandedInIsOnlyRead(t *testing.T) {
	room := []api.Instr{{Op: api.OpLdi, D: 1, S: 9, Imm: 5}, {Op: api.OpRet, D: 9}, {Op: 99}, {Op: 98}}
	kept := slices.Clone(room)
	encodes(t, room[:2], []int{2176, 5, 27648})
	if !slices.Equal(room, kept) {
		t.Errorf("Encode changes %v to %v", kept, room)
	}
	words := []int{2176, 5, 19456, 7, -1}
	before := slices.Clone(words)
	decodes(t, words[:2], []api.Instr{{Op: api.OpLdi, D: 1, Imm: 5}})
	failsToDecode(t, words[:3], api.ErrForm, 2)
	isNone(t, words[:3], 2)
	if !slices.Equal(words, before) {
		t.Errorf("Decode or One changes %v to %v", before, words)
	}
}

func TestAnswersAreTheCallersOwn(t *testing.T) {
	l := []api.Instr{{Op: api.OpLdi, D: 1, Imm: 5}, {Op: api.OpRet}}
	first, _ := Encode(l)
	second, _ := Encode(l)
	clear(first[:cap(first)])
	l[0] = api.Instr{}
	if !slices.Equal(second, []int{2176, 5, 27648}) {
		t.Errorf("%v comes of what was %v", second, []int{2176, 5, 27648})
	}
	one, _ := Decode(second)
	other, _ := Decode(second)
	clear(one[:cap(one)])
	clear(second)
	if want := []api.Instr{{Op: api.OpLdi, D: 1, Imm: 5}, {Op: api.OpRet}}; !slices.Equal(other, want) {
		t.Errorf("%v comes of what was %v", other, want)
	}
}
