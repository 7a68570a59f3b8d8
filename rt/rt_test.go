package rt

import (
	"reflect"
	"strings"
	"testing"
	"unsafe"

	"pairlegal/api"
	"pairlegal/asm"
	"pairlegal/link"
)

var allNames = []string{
	"mul1", "mul2", "mul4",
	"sar1", "sar2", "sar4",
	"sdiv1", "sdiv2", "sdiv4",
	"shl1", "shl2", "shl4",
	"shr1", "shr2", "shr4",
	"srem1", "srem2", "srem4",
	"udiv1", "udiv2", "udiv4",
	"urem1", "urem2", "urem4",
}

// F1

func TestNames(t *testing.T) {
	for range 20 {
		if got := Names(); !reflect.DeepEqual(got, allNames) {
			t.Fatalf("Names: %q", got)
		}
	}
}

func TestTextOfNoRoutine(t *testing.T) {
	names := []string{
		"", "1", "2", "4", "mul", "sdiv", "mul0", "mul3", "mul5", "mul8", "mul16", "mul01", "mul11", "mul14", "mul41", "mul-1", "mul1.",
		"Mul1", "MUL4", ".mul1", "_mul1", "mul_1", "div1", "rem2", "sal4", "shl3", "ushr1", "add1", "neg2", "main",
		"mul1mul1", "mul\x001", "mul1\x00", "mul１", "m\xffl1", strings.Repeat("mul1", 100000),
	}
	for _, name := range allNames {
		names = append(names, name+" ", " "+name, name+":", name+"\n", name+"1", name[1:], name[:len(name)-1], strings.ToUpper(name), "."+name)
	}
	for _, name := range names {
		if text, err := Text(name); text != "" || err != api.ErrName {
			t.Errorf("Text(%.40q): %d bytes, %d", name, len(text), err)
		}
	}
}

func TestTexts(t *testing.T) {
	for _, name := range allNames {
		text, err := Text(name)
		if err != api.OK {
			t.Errorf("Text(%q): %d", name, err)
			continue
		}
		lines, fault := asm.Read(text)
		if fault != (api.Fault{}) {
			t.Errorf("Text(%q) is not read: %v", name, fault)
		}
		if got := labelsForAll(lines); !reflect.DeepEqual(got, []string{name}) {
			t.Errorf("Text(%q) has the labels %q for all", name, got)
		}
		if again, _ := Text(name); again != text {
			t.Errorf("Text(%q) is another one when it is asked again", name)
		}
	}
}

func labelsForAll(lines []api.Line) []string {
	var labels []string
	for _, l := range lines {
		if l.Label != "" && !strings.HasPrefix(l.Label, ".") {
			labels = append(labels, l.Label)
		}
	}
	return labels
}

func TestUnits(t *testing.T) {
	units := Units()
	if len(units) != len(allNames) {
		t.Fatalf("%d units", len(units))
	}
	for k, u := range units {
		text, _ := Text(allNames[k])
		lines, _ := asm.Read(text)
		if u.Name != allNames[k] || len(u.Lines) == 0 || !reflect.DeepEqual(u.Lines, lines) {
			t.Errorf("unit %d, %q, is not %q", k, u.Name, allNames[k])
		}
	}
}

func TestAllAreLinked(t *testing.T) {
	image := allCalled(t)
	if len(image.Words) >= 32768 {
		t.Errorf("%d words", len(image.Words))
	}
	if len(image.Units) != len(allNames)+1 {
		t.Errorf("%d units are linked", len(image.Units))
	}
	for _, name := range allNames {
		if _, fault := link.Link(Units(), name); fault != (api.Fault{}) {
			t.Errorf("%s with those that it speaks of is not linked: %v", name, fault)
		}
	}
}

// allCalled is an image of all routines, and a unit that calls each: that call, with an OpHalt behind it, has the label at_ and the routine's name.
func allCalled(t *testing.T) api.Image {
	t.Helper()
	var lines []api.Line
	for _, name := range allNames {
		lines = append(lines, api.Line{Label: "at_" + name}, api.Line{Ins: api.Instr{Op: api.OpCall}, Ref: name}, api.Line{Ins: api.Instr{Op: api.OpHalt}})
	}
	image, fault := link.Link(append(Units(), api.Unit{Name: "calls", Lines: lines}), "at_mul1")
	if fault != (api.Fault{}) {
		t.Fatalf("not linked: %v", fault)
	}
	return image
}

// Z2

func TestAnswersAreNew(t *testing.T) {
	names := Names()
	names = names[:cap(names)]
	for k := range names {
		names[k] = "none"
	}
	units := Units()
	units = units[:cap(units)]
	for k := range units {
		lines := units[k].Lines[:cap(units[k].Lines)]
		for i := range lines {
			lines[i] = api.Line{Label: "none"}
		}
		units[k].Name = "none"
	}
	TestNames(t)
	TestTexts(t)
	TestUnits(t)
}

func TestTextKeepsNoName(t *testing.T) {
	buf := []byte("sdiv4")
	name := unsafe.String(&buf[0], len(buf))
	text, _ := Text(name)
	want := strings.Clone(text)
	copy(buf, "xxxxx")
	if text != want {
		t.Error("the text has changed with the name that was handed in")
	}
}
