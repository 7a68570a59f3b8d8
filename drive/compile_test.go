package drive

import (
	"testing"

	"pairlegal/api"
	"pairlegal/build"
	"pairlegal/emu"
	"pairlegal/fold"
	"pairlegal/instr"
	"pairlegal/source"
)

// M1

// compilers are both ways from a text to words.
var compilers = []struct {
	name string
	call func(string) (api.Image, api.Fault)
}{{"Compile", Compile}, {"Quick", Quick}}

// made is the image of a text of which there must be one.
func made(t *testing.T, call func(string) (api.Image, api.Fault), text string) api.Image {
	t.Helper()
	image, f := call(text)
	if f != (api.Fault{}) || len(image.Words) == 0 {
		t.Fatalf("%d words and %v come of %.300q", len(image.Words), f, text)
	}
	return image
}

// refuses: a fault comes of a text, and nothing beside it.
func refuses(t *testing.T, call func(string) (api.Image, api.Fault), text string, want api.Fault) {
	t.Helper()
	image, f := call(text)
	if f != want || !sameImage(image, api.Image{}) {
		t.Errorf("%v and %d words come, not %v, of %.300q", f, len(image.Words), want, text)
	}
}

// TestWhatIsWrong: each kind of fault, with its place.
func TestWhatIsWrong(t *testing.T) {
	for _, b := range allBad() {
		for _, c := range compilers {
			refuses(t, c.call, b.text, b.want)
		}
	}
}

// TestWhoseFault: texts that are told to be wrong for Read, for Check and for Build are so for just these.
func TestWhoseFault(t *testing.T) {
	for _, b := range wrongForRead() {
		if _, f := source.Read(b.text); f != b.want {
			t.Errorf("Read: %v comes, not %v, of %.300q", f, b.want, b.text)
		}
	}
	for _, b := range append(wrongForCheck(), wrongForBuild()...) {
		p, f := source.Read(b.text)
		if f != (api.Fault{}) {
			t.Errorf("Read: %v comes of %.300q", f, b.text)
		}
		if _, f := build.Build(p); f != b.want {
			t.Errorf("Build: %v comes, not %v, of %.300q", f, b.want, b.text)
		}
	}
	for _, b := range wrongForBuild() {
		p, _ := source.Read(b.text)
		if _, f := fold.Program(p); f != (api.Fault{}) {
			t.Errorf("Program: %v comes of %.300q", f, b.text)
		}
	}
}

// compiled is what Compile must tell, by the words of M1.
func compiled(text string) (api.Image, api.Fault) {
	p, f := source.Read(text)
	if f != (api.Fault{}) {
		return api.Image{}, f
	}
	return build.Build(p)
}

// quickened is what Quick must tell.
func quickened(text string) (api.Image, api.Fault) {
	p, f := source.Read(text)
	if f != (api.Fault{}) {
		return api.Image{}, f
	}
	if p, f = fold.Program(p); f != (api.Fault{}) {
		return api.Image{}, f
	}
	return build.Build(p)
}

// TestWhatIsTold: Compile tells what Read and Build tell, Quick what Read, Program and Build tell.
func TestWhatIsTold(t *testing.T) {
	texts := append(append(good(), shrinks()...), broken()...)
	for _, b := range allBad() {
		texts = append(texts, b.text)
	}
	for _, text := range texts {
		for i, must := range []func(string) (api.Image, api.Fault){compiled, quickened} {
			image, f := compilers[i].call(text)
			want, g := must(text)
			if f != g || !sameImage(image, want) {
				t.Errorf("%s: %d words and %v come, not %d and %v, of %.300q", compilers[i].name, len(image.Words), f, len(want.Words), g, text)
			}
		}
	}
}

// TestWhatIsGood: words come of it, by both ways, and they are instructions.
func TestWhatIsGood(t *testing.T) {
	for _, text := range good() {
		for _, c := range compilers {
			image := made(t, c.call, text)
			if _, f := instr.Decode(image.Words); f != (api.Fault{}) || len(image.Words) > api.MaxMem {
				t.Errorf("%s: %d words come of %.300q: %v", c.name, len(image.Words), text, f)
			}
		}
	}
}

// told is what words tell that come to their end.
func told(t *testing.T, words []int) string {
	t.Helper()
	r, err := emu.Run(words, api.State{}, nil, api.MaxFuel)
	if err != api.OK || r.How != api.RanHalt {
		t.Errorf("%s, %v comes", brief(r), err)
	}
	return string(r.Output)
}

// TestQuickWorksOutAhead: what has too many nodes as it is read may have few enough then, and Compile does not know of it.
func TestQuickWorksOutAhead(t *testing.T) {
	for _, text := range shrinks() {
		refuses(t, Compile, text, fault(api.ErrMuch, 0))
		if got := told(t, made(t, Quick, text).Words); got != "A" {
			t.Errorf("%q is told by %.300q", got, text)
		}
	}
}

// TestMaxBuild: as many nodes as there may be, and one more, as a program is read, and as it is worked out ahead.
func TestMaxBuild(t *testing.T) {
	for _, c := range compilers {
		made(t, c.call, nodes(api.MaxBuild-1))
		made(t, c.call, nodes(api.MaxBuild))
		refuses(t, c.call, nodes(api.MaxBuild+1), fault(api.ErrMuch, 0))
	}
	// Of the first statement an SNone is left.
	ahead := "void main() { while (0) { " + many(";", 300) + " } "
	made(t, Quick, ahead+many(";", api.MaxBuild-2)+" }")
	refuses(t, Quick, ahead+many(";", api.MaxBuild-1)+" }", fault(api.ErrMuch, 0))
	refuses(t, Compile, ahead+many(";", api.MaxBuild-2)+" }", fault(api.ErrMuch, 0))
}

// TestBothTellTheSame: what is worked out ahead means the same.
func TestBothTellTheSame(t *testing.T) {
	for _, text := range good() {
		for _, input := range []string{"", "a", "a b\xff"} {
			a, err := emu.Run(made(t, Compile, text).Words, api.State{}, []byte(input), api.MaxFuel)
			b, errQuick := emu.Run(made(t, Quick, text).Words, api.State{}, []byte(input), api.MaxFuel)
			if err != api.OK || errQuick != api.OK || a.How != b.How || a.Trap != b.Trap || a.Read != b.Read || !sameList(a.Output, b.Output) {
				t.Errorf("%s\ncomes, not\n%s\nof %q and %.300q", brief(b), brief(a), input, text)
			}
		}
	}
}

// TestWhatIsWrittenAround: remarks and blanks make no other words, nor brackets that are not needed.
func TestWhatIsWrittenAround(t *testing.T) {
	const text = "u8 a[2] = {1, 2}; i16 f(i16 x) { return x + a[1] * 3; } i16 main() { if (f(1) > 5) { put(65); } else { put(66); } return 1 + 6; }"
	for _, c := range compilers {
		want := made(t, c.call, text)
		for _, same := range []string{
			"// a remark\n" + text,
			" \t\n\n // a remark, and one more // here\n//\n\t" + text,
			text + " // behind",
			text + "\n//\n",
			"//\xff\x00 \"void main() { }\n" + text,
			many("// x\n", 10000) + text,
			many(" ", api.MaxSource-len(text)) + text,
			"u8 a [ 2 ] = {\n\t1,\n\t2\n} ;\ni16 f(i16 x) // takes one\n{\n\treturn ((x) + (a[(1)] * 3));\n}\ni16 main()\n{\n\tif (f(1) > 5)\n\t\tput(65);\n\telse\n\t\tput(66);\n\treturn 1+6;}",
			"u8 a[2]={1,2};i16 f(i16 x){return x+a[1]*3;}i16 main(){if(f(1)>5){put(65);}else{put(66);}return 1+6;}",
			"u8 a[02]={01,0002}; i16 f(i16 x) { return x + a[00001] * 03; } i16 main() { if (f(1) > 05) put(065); else put(0066); return 01 + 6; }",
		} {
			if got := made(t, c.call, same); !sameImage(got, want) {
				t.Errorf("%s: other words come of %.300q", c.name, same)
			}
		}
		// One blank more than there may be.
		refuses(t, c.call, many(" ", api.MaxSource-len(text)+1)+text, fault(api.ErrMuch, 0))
	}
}
