package object

import (
	"slices"
	"testing"

	"pairlegal/api"
	"pairlegal/asm"
	"pairlegal/drive"
	"pairlegal/emu"
	"pairlegal/link"
	"pairlegal/rt"
	"pairlegal/shelf"
)

// throughFile is what is loaded of what is saved.
func throughFile(t *testing.T, i api.Image) api.Image {
	t.Helper()
	b, err := Save(i)
	if err != api.OK {
		t.Fatalf("%v comes of an image to save", err)
	}
	out, err := Load(b)
	if err != api.OK || !same(out, i) {
		t.Fatalf("%v comes of a saved image, or another image", err)
	}
	return out
}

// TestCompiledPrograms: what is compiled goes through files, and runs on as it did.
func TestCompiledPrograms(t *testing.T) {
	for _, name := range shelf.Names() {
		text, err := shelf.Text(name)
		if err != api.OK {
			t.Fatalf("%s: %v comes", name, err)
		}
		for _, compile := range []func(string) (api.Image, api.Fault){drive.Compile, drive.Quick} {
			i, fault := compile(text)
			if fault.Err != api.OK {
				t.Fatalf("%s: %v comes", name, fault)
			}
			if err := Wrong(i); err != api.OK {
				t.Errorf("%s: %v is wrong with what is compiled", name, err)
			}
			loaded := throughFile(t, i)
			want, _ := emu.Run(i.Words, api.State{}, []byte("5 3 "), 200000)
			got, _ := emu.Run(loaded.Words, api.State{}, []byte("5 3 "), 200000)
			if got.How != want.How || got.Steps != want.Steps || !slices.Equal(got.Output, want.Output) {
				t.Errorf("%s: runs %d after %d steps, not %d after %d", name, got.How, got.Steps, want.How, want.Steps)
			}
		}
	}
}

// TestLinkedUnits: all routines at once, and a label behind all memory.
func TestLinkedUnits(t *testing.T) {
	text := "main:\n"
	for _, name := range rt.Names() {
		text += "\tcall " + name + "\n"
	}
	i, fault := link.Link(append(rt.Units(), unit(t, text)), "main")
	if fault.Err != api.OK || len(i.Units) != len(rt.Names())+1 {
		t.Fatalf("%d units and %v come", len(i.Units), fault)
	}
	throughFile(t, i)

	full := "main:\n"
	for range api.MaxMem / 2 {
		full += "\tjmp main\n"
	}
	i, fault = link.Link([]api.Unit{unit(t, full+"end:\n")}, "main")
	if fault.Err != api.OK || i.Spots[1] != spot("end", api.MaxMem) {
		t.Fatalf("%v and %v come", i.Spots, fault)
	}
	throughFile(t, i)
}

func unit(t *testing.T, text string) api.Unit {
	t.Helper()
	lines, fault := asm.Read(text)
	if fault.Err != api.OK {
		t.Fatalf("%v comes of the test's text", fault)
	}
	return api.Unit{Lines: lines}
}
