package asm

import (
	"regexp"
	"slices"
	"strconv"
	"strings"
	"testing"

	"pairlegal/api"
)

func reads(t *testing.T, text string, want ...api.Line) {
	t.Helper()
	if got, f := Read(text); !slices.Equal(got, want) || f != (api.Fault{}) {
		t.Errorf("Read(%q): %+v, %v comes, not %+v", text, got, f, want)
	}
}

func failsToRead(t *testing.T, text string, err api.Errno, at int) {
	t.Helper()
	if got, f := Read(text); len(got) != 0 || f.Err != err || f.At != at {
		if len(text) > 100 {
			text = text[:100] + ".."
		}
		t.Errorf("Read(%q): %d lines, %v comes, not %d at %d", text, len(got), f, err, at)
	}
}

// D3

func TestWhatIsWrittenIsRead(t *testing.T) {
	text, f := Show(lines())
	if f != (api.Fault{}) {
		t.Fatal(f)
	}
	reads(t, text, lines()...)
	reads(t, strings.TrimSuffix(text, "\n"), lines()...)
	for _, l := range lines() {
		reads(t, written(l), l)
		reads(t, strings.TrimSpace(written(l)), l)
	}
}

func TestReadLabels(t *testing.T) {
	for _, s := range names {
		reads(t, s+":", label(s))
		reads(t, " \t"+s+":\t ;"+s+"\n", label(s))
	}
	for _, s := range noNames {
		if !strings.ContainsAny(s, ";\n") && s == strings.TrimLeft(s, " \t") {
			failsToRead(t, s+":", api.ErrName, 0)
		}
	}
	reads(t, "a:\na:\n", label("a"), label("a"))
	for _, text := range []string{"a :", "a\t:", "a b:", ":", " : ", "::", "a::", "jmp a:", "halt :", "foo r1, r9:", "a.b:"} {
		failsToRead(t, text, api.ErrName, 0)
	}
	for _, text := range []string{"a:b", "a: halt", "a:\thalt", ":a", ": a"} {
		failsToRead(t, text, api.ErrKind, 0)
	}
}

func TestRemarksAndBlanksMakeNothing(t *testing.T) {
	mov := line(api.OpMov, 1, 2, 0)
	for _, text := range []string{
		"mov r1,r2", "mov r1, r2", "\tmov r1, r2\n", " \t \tmov r1, r2 \t\t \n", "mov   r1  ,  r2", "mov \t r1\t,\tr2",
		"mov r1, r2;", "mov r1, r2 ; mov r3, r4", "mov r1,r2;;;\n", "mov r1, r2;a:", "mov r1, r2 ; , r3\n",
		"\nmov r1, r2\n\n", "\n\n \t\n;\n ; mov r1, r1\n;a:\nmov r1, r2", "mov r1, r2\n;", "mov r1, r2\n ", "; \xff\x00\nmov r1, r2; \xff",
	} {
		reads(t, text, mov)
	}
	for _, text := range []string{"", "\n", "\n\n\n", " ", "\t", " \t \n\t", ";", ";\n", "; only", " ;;; a: mov", "\n;x\n \n"} {
		reads(t, text)
	}
	reads(t, "ret;", line(api.OpRet, 0, 0, 0))
	reads(t, "halt \t ; r1", line(api.OpHalt, 0, 0, 0))
	reads(t, "a:;\n.b: ;", label("a"), label(".b"))
}

// Only blanks and tabs make nothing, and only a blank stands behind the kind's word.
func TestOtherWhiteMakesSomething(t *testing.T) {
	for _, w := range []string{"\r", "\v", "\f", "\x00", "\u00a0", "\u0085", "\u2003"} {
		failsToRead(t, "halt"+w, api.ErrKind, 0)
		failsToRead(t, w+"halt", api.ErrKind, 0)
		failsToRead(t, w, api.ErrKind, 0)
		failsToRead(t, w+";", api.ErrKind, 0)
		failsToRead(t, "a:"+w, api.ErrKind, 0)
		failsToRead(t, w+"a:", api.ErrName, 0)
		failsToRead(t, "mov r1, r2"+w, api.ErrForm, 0)
		failsToRead(t, "mov "+w+"r1, r2", api.ErrForm, 0)
		failsToRead(t, "jmp 5"+w, api.ErrForm, 0)
		failsToRead(t, "jmp "+w+"a", api.ErrForm, 0)
		failsToRead(t, "mov"+w+"r1, r2", api.ErrKind, 0)
	}
	failsToRead(t, "mov\tr1, r2", api.ErrKind, 0)
	failsToRead(t, "mov\t r1, r2", api.ErrKind, 0)
	failsToRead(t, "halt\t;\nhalt\r\n", api.ErrKind, 1)
}

func TestNoKindsWord(t *testing.T) {
	for _, text := range []string{"foo", "Mov r1, r2", "MOV r1, r2", "mo r1, r2", "movr1, r2", "mov,r1, r2", "mov,", ",", "halt,", "OpHalt", "0", "r1", "a", ".a", "halts", "hal", "ldi5 r1, 5", "\"halt\""} {
		failsToRead(t, text, api.ErrKind, 0)
	}
	for _, k := range kinds {
		failsToRead(t, strings.ToUpper(k.word), api.ErrKind, 0)
		failsToRead(t, k.word+"_", api.ErrKind, 0)
		failsToRead(t, "op"+k.word, api.ErrKind, 0)
		failsToRead(t, strconv.Itoa(k.op), api.ErrKind, 0)
	}
}

// fieldsOf has a field of each sort that the kind has.
func fieldsOf(has string) []string {
	var out []string
	for _, f := range has {
		if f == 'i' {
			out = append(out, "12")
		} else {
			out = append(out, "r3")
		}
	}
	return out
}

func TestTooFewAndTooManyFields(t *testing.T) {
	for _, k := range kinds {
		all := fieldsOf(k.has)
		for n := range len(all) {
			failsToRead(t, k.word+" "+strings.Join(all[:n], ","), api.ErrMany, 0)
		}
		for _, more := range []string{"", "r1", "5", "x!", ","} {
			failsToRead(t, k.word+" "+strings.Join(append(slices.Clone(all), more), " , ")+",", api.ErrMany, 0)
		}
		if len(all) > 0 {
			failsToRead(t, k.word+" "+strings.Join(all, ",")+",", api.ErrMany, 0)
			failsToRead(t, k.word+" ,"+strings.Join(all, ","), api.ErrForm, 0)
		}
	}
	failsToRead(t, "halt ,", api.ErrMany, 0)
	failsToRead(t, "halt r1", api.ErrMany, 0)
	failsToRead(t, "ret 0", api.ErrMany, 0)
	failsToRead(t, "mov", api.ErrMany, 0)
	failsToRead(t, "mov r1", api.ErrMany, 0)
	failsToRead(t, "ldi r1", api.ErrMany, 0)
	failsToRead(t, "mov r1, r2, ", api.ErrMany, 0)
}

// Fields are looked at one by one: what is wrong with one is told ahead of what is missing, or too many, behind it.
func TestFieldsOneByOne(t *testing.T) {
	failsToRead(t, "mov r8", api.ErrForm, 0)
	failsToRead(t, "mov ,", api.ErrForm, 0)
	failsToRead(t, "mov x, r1, r2", api.ErrForm, 0)
	failsToRead(t, "mov r1, r8, r2", api.ErrForm, 0)
	failsToRead(t, "mov r1, r2, r8", api.ErrMany, 0)
	failsToRead(t, "ldi r1, ", api.ErrForm, 0)
	failsToRead(t, "ld r1, , 5", api.ErrForm, 0)
	failsToRead(t, "ld r1,", api.ErrForm, 0)
	failsToRead(t, "ld r1, r2", api.ErrMany, 0)
	failsToRead(t, "mov r1 r2", api.ErrForm, 0)
	failsToRead(t, "jmp a b", api.ErrForm, 0)
	failsToRead(t, "push r1 r2, r3", api.ErrForm, 0)
}

// A field without a byte is one, too, if a comma stands beside it.
func TestRegisters(t *testing.T) {
	for r := range 8 {
		text := "r" + strconv.Itoa(r)
		reads(t, "pop "+text, line(api.OpPop, r, 0, 0))
		reads(t, "push "+text, line(api.OpPush, 0, r, 0))
		reads(t, "st "+text+", r1, 2", line(api.OpSt, r, 1, 2))
		reads(t, "ld r1, "+text+", 2", line(api.OpLd, 1, r, 2))
	}
	for _, x := range []string{"", "r", "r8", "r9", "r-1", "r-0", "r+1", "r01", "r00", "r10", "r1 0", "r 1", "R1", "rr1", "1", "a", ".r1", "r1x", "r1.", "r١", "r1\x00", "r18446744073709551617", "r0x1", "r1_", "r1e0"} {
		failsToRead(t, "mov r1, "+x, api.ErrForm, 0)
		failsToRead(t, "st "+x+", r1, 2", api.ErrForm, 0)
	}
}

func TestNumbers(t *testing.T) {
	for _, n := range []int{0, 1, 7, 9, 10, 99, 100, 9999, 10000, 32767, 32768, 65534, 65535} {
		text := strconv.Itoa(n)
		reads(t, "ldi r1, "+text, line(api.OpLdi, 1, 0, n))
		reads(t, "trap "+text, line(api.OpTrap, 0, 0, n))
		reads(t, "jge "+text, line(api.OpJge, 0, 0, n))
	}
	for _, x := range []string{"65536", "65537", "99999", "100000", "4294967296", "18446744073709551616", "18446744073709551621", strings.Repeat("9", 1000), "00", "01", "007", "000", "065535", "-0", "-1", "+1", "+0", "1.0", "1 0", "0x1", "0b1", "0o1", "1_0", "1e1", "١", "'a'", "1a", "5\x00"} {
		failsToRead(t, "ldi r1, "+x, api.ErrForm, 0)
		failsToRead(t, "trap "+x, api.ErrForm, 0)
		failsToRead(t, "call "+x, api.ErrForm, 0)
	}
}

func TestRefs(t *testing.T) {
	for _, k := range kinds {
		if !strings.Contains(k.has, "i") {
			continue
		}
		all := fieldsOf(k.has)
		ahead := k.word + " " + strings.Join(all[:len(all)-1], ", ")
		if len(all) > 1 {
			ahead += ", "
		}
		for _, s := range names {
			if k.op == api.OpTrap {
				failsToRead(t, ahead+s, api.ErrForm, 0)
			} else {
				reads(t, ahead+s, clean(refers(k.op, 3, 3, s), k.has))
			}
		}
		for _, s := range noNames {
			if s != "" && s != "0" && s != "9" && !strings.ContainsAny(s, " \t\n;:,") {
				failsToRead(t, ahead+s, api.ErrForm, 0)
			}
		}
	}
	reads(t, "jmp b", refers(api.OpJmp, 0, 0, "b"))
	reads(t, "jmp .5", refers(api.OpJmp, 0, 0, ".5"))
}

func TestReadTellsTheFirstThatIsWrong(t *testing.T) {
	failsToRead(t, "halt\nfoo\nA:", api.ErrKind, 1)
	failsToRead(t, "halt\nA:\nfoo", api.ErrName, 1)
	failsToRead(t, "\n\n; x\nmov r9, r1\nfoo", api.ErrForm, 3)
	failsToRead(t, "a:\n\n\n\n\nmov r1", api.ErrMany, 5)
	failsToRead(t, "\n\n\nhalt\n;\n\nmov r1, r2, r3\n", api.ErrMany, 6)
	failsToRead(t, ";\nfoo\n", api.ErrKind, 1)
}

func TestReadOfTooMuch(t *testing.T) {
	room := strings.Repeat(" ", api.MaxText)
	reads(t, room[:api.MaxText-4]+"halt", api.Line{})
	reads(t, "halt;"+room[:api.MaxText-5], api.Line{})
	failsToRead(t, room+" ", api.ErrMuch, 0)
	failsToRead(t, "foo\n"+room, api.ErrMuch, 0)
	failsToRead(t, strings.Repeat("\n", api.MaxText+1), api.ErrMuch, 0)
	failsToRead(t, strings.Repeat("\n", api.MaxText), api.ErrMany, 0)
	failsToRead(t, "halt "+strings.Repeat(",", api.MaxText-5), api.ErrMany, 0)
	failsToRead(t, "jmp "+strings.Repeat("1", api.MaxText-4), api.ErrForm, 0)
	failsToRead(t, strings.Repeat("a", api.MaxText-1)+":", api.ErrName, 0)
}

// Lines that hold nothing count; what is behind the last line feed does so only if there is something.
func TestReadOfTooManyLines(t *testing.T) {
	empty := strings.Repeat("\n", api.MaxLines)
	reads(t, empty)
	reads(t, empty[1:]+"ret", line(api.OpRet, 0, 0, 0))
	reads(t, empty[1:]+"ret\n", line(api.OpRet, 0, 0, 0))
	failsToRead(t, empty+"\n", api.ErrMany, 0)
	failsToRead(t, empty+" ", api.ErrMany, 0)
	failsToRead(t, empty+";", api.ErrMany, 0)
	failsToRead(t, "foo"+empty+"ret", api.ErrMany, 0)
	failsToRead(t, "foo"+empty, api.ErrKind, 0)
	failsToRead(t, empty[1:]+"foo", api.ErrKind, api.MaxLines-1)
	full := strings.Repeat("\tst r1, r2, 7\n", api.MaxLines)
	if l, f := Read(full); len(l) != api.MaxLines || f != (api.Fault{}) {
		t.Errorf("%d lines, %v comes", len(l), f)
	}
	failsToRead(t, full+"a", api.ErrMany, 0)
}

var (
	aRemark   = regexp.MustCompile(`(?s);.*`)
	anEnd     = regexp.MustCompile(`\A[ \t]+|[ \t]+\z`)
	aRegister = regexp.MustCompile(`\A[ \t]*r([0-7])[ \t]*\z`)
	aNumber   = regexp.MustCompile(`\A[ \t]*(0|[1-9][0-9]{0,4})[ \t]*\z`)
	aRef      = regexp.MustCompile(`\A[ \t]*(\.?[a-z_0-9]{1,32})[ \t]*\z`)
)

// readSlowly reads one line by the words of the document, in another way than the program.
func readSlowly(text string) (api.Line, bool, api.Errno) {
	text = aRemark.ReplaceAllString(text, "")
	text = anEnd.ReplaceAllString(text, "")
	if text == "" {
		return api.Line{}, false, api.OK
	}
	if n := len(text) - 1; text[n] == ':' {
		if !aName.MatchString(text[:n]) {
			return api.Line{}, false, api.ErrName
		}
		return label(text[:n]), true, api.OK
	}
	for _, k := range kinds {
		if text == k.word {
			l, err := fieldsSlowly(k.op, nil)
			return l, err == api.OK, err
		}
		if strings.HasPrefix(text, k.word+" ") {
			l, err := fieldsSlowly(k.op, strings.Split(text[len(k.word)+1:], ","))
			return l, err == api.OK, err
		}
	}
	return api.Line{}, false, api.ErrKind
}

func fieldsSlowly(op int, fields []string) (api.Line, api.Errno) {
	l := line(op, 0, 0, 0)
	for at, f := range kinds[op].has {
		if at >= len(fields) {
			return api.Line{}, api.ErrMany
		}
		if m := aRegister.FindStringSubmatch(fields[at]); m != nil && f == 'd' {
			l.Ins.D = int(m[1][0] - '0')
		} else if m != nil && f == 's' {
			l.Ins.S = int(m[1][0] - '0')
		} else if m := aNumber.FindStringSubmatch(fields[at]); m != nil && f == 'i' {
			l.Ins.Imm, _ = strconv.Atoi(m[1])
		} else if m := aRef.FindStringSubmatch(fields[at]); m != nil && f == 'i' && op != api.OpTrap && aName.MatchString(m[1]) {
			l.Ref = m[1]
		} else {
			return api.Line{}, api.ErrForm
		}
	}
	if len(fields) > len(kinds[op].has) {
		return api.Line{}, api.ErrMany
	}
	return l, api.OK
}

// Every line of up to five of these pieces, on its own and behind another one.
func TestEveryShortLine(t *testing.T) {
	pieces := []string{"ld", "trap", "halt", " ", "\t", ",", ";", ":", "r1", "r", "0", "7", ".", "a", "\r"}
	most := 5
	if testing.Short() {
		most = 4
	}
	var all func(text string, left int)
	all = func(text string, left int) {
		want, there, err := readSlowly(text)
		got, f := Read("\n;\n" + text + "\n")
		switch {
		case err != api.OK:
			if len(got) != 0 || f != (api.Fault{Err: err, At: 2}) {
				t.Fatalf("Read(%q): %+v, %v comes, not %d", text, got, f, err)
			}
		case f != (api.Fault{}) || there && !slices.Equal(got, []api.Line{want}) || !there && len(got) != 0:
			t.Fatalf("Read(%q): %+v, %v comes, not %+v, %v", text, got, f, want, there)
		}
		if left == 0 {
			return
		}
		for _, p := range pieces {
			all(text+p, left-1)
		}
	}
	all("", most)
	all("ld r1, r2", most-1)
	all("jmp ", most-1)
}

// What is read is nothing wrong, is written, and is read again as the same; whatever the text is.
func FuzzRead(f *testing.F) {
	for _, s := range []string{"", "a:\n\tjmp a\n", "ld r1, r2, 3 ; x\n\n.x:", "mov r1", "trap a", "halt ,", ": \xff", "ldi r7,65535\r\n"} {
		f.Add(s)
	}
	f.Fuzz(func(t *testing.T, text string) {
		l, fault := Read(text)
		if fault != (api.Fault{}) {
			if len(l) != 0 {
				t.Errorf("%d lines beside %v", len(l), fault)
			}
			return
		}
		shown, fault := Show(l)
		if fault != (api.Fault{}) {
			t.Fatalf("what was read isn't written: %v", fault)
		}
		if again, fault := Read(shown); len(shown) <= api.MaxText && (!slices.Equal(again, l) || fault != (api.Fault{})) {
			t.Errorf("%q becomes %+v, and that %q", text, l, shown)
		}
		Assemble(l)
	})
}
