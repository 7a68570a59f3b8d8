package drive

import (
	"bytes"
	"slices"
	"strings"
	"sync"
	"testing"

	"pairlegal/api"
)

// Z1 to Z5

// spoil overwrites a list, with its spare room.
func spoil[T any](l []T, with T) {
	l = l[:cap(l)]
	for i := range l {
		l[i] = with
	}
}

func spoilImage(i api.Image) {
	spoil(i.Words, 32767)
	spoil(i.Units, -1)
	spoil(i.Spots, api.Spot{Name: "spoilt"})
}

func spoilRan(r api.Ran) {
	spoil(r.Output, 'x')
	spoil(r.State.Mem, -1)
}

func cloneImage(i api.Image) api.Image {
	return api.Image{Words: slices.Clone(i.Words), Units: slices.Clone(i.Units), Spots: slices.Clone(i.Spots)}
}

func cloneRan(r api.Ran) api.Ran {
	r.Output, r.State.Mem = slices.Clone(r.Output), slices.Clone(r.State.Mem)
	return r
}

// TestAskedAgain: the same comes whenever it is asked, with other calls between, though what came ahead was overwritten.
func TestAskedAgain(t *testing.T) {
	type answer struct {
		images [2]api.Image
		faults [2]api.Fault
		ran    api.Ran
		fault  api.Fault
	}
	ask := func(text string) (a answer) {
		for i, c := range compilers {
			image, f := c.call(text)
			a.images[i], a.faults[i] = cloneImage(image), f
			spoilImage(image)
		}
		ran, f := Play(text, []byte("a b"), 3000)
		a.ran, a.fault = cloneRan(ran), f
		spoilRan(ran)
		return a
	}
	texts := append(good(), shrinks()...)
	for _, b := range allBad() {
		texts = append(texts, b.text)
	}
	var first []answer
	for _, text := range texts {
		first = append(first, ask(text))
	}
	for i := len(texts) - 1; i >= 0; i-- {
		a, want := ask(texts[i]), first[i]
		if a.faults != want.faults || a.fault != want.fault || !sameRan(a.ran, want.ran) {
			t.Errorf("%v, %v, %s come, not %v, %v, %s, of %.300q", a.faults, a.fault, brief(a.ran), want.faults, want.fault, brief(want.ran), texts[i])
		}
		for k, c := range compilers {
			if !sameImage(a.images[k], want.images[k]) {
				t.Errorf("%s: other words come of %.300q", c.name, texts[i])
			}
		}
	}
}

// TestPlayOnlyReads: neither the bytes that come in nor the spare room behind them are changed or kept, and that room is not looked at.
func TestPlayOnlyReads(t *testing.T) {
	for _, text := range append(good(), "void main() { x; }", "") {
		for _, fuel := range []int{-1, 0, 50, 20000} {
			want, f := Play(text, []byte("a b"), fuel)
			room := []byte("a bcdefgh")
			got, g := Play(text, room[:3], fuel)
			if g != f || !sameRan(got, want) {
				t.Errorf("%s, %v comes, not %s, %v, of %.300q", brief(got), g, brief(want), f, text)
			}
			if string(room) != "a bcdefgh" {
				t.Errorf("%q is left of what came in to %.300q", room, text)
			}
			spoil(room, 'z')
			if !sameRan(got, want) {
				t.Errorf("what came in is a part of what came of %.300q", text)
			}
			spoilRan(got)
			if !bytes.Equal(room, []byte("zzzzzzzzz")) {
				t.Errorf("what came of %.300q is a part of what came in", text)
			}
		}
	}
}

// TestSideBySide: many ask at once, and each one gets the same.
func TestSideBySide(t *testing.T) {
	texts := append(good()[:6], "void main() { x; }", "x", nodes(api.MaxBuild+1), shrinks()[0])
	var images, quick []api.Image
	var runs []api.Ran
	for _, text := range texts {
		a, _ := Compile(text)
		b, _ := Quick(text)
		r, _ := Play(text, []byte("abc"), 5000)
		images, quick, runs = append(images, a), append(quick, b), append(runs, r)
	}
	var done sync.WaitGroup
	for k := range 8 {
		done.Add(1)
		go func() {
			defer done.Done()
			for i := range texts {
				at := (i + k*3) % len(texts)
				a, _ := Compile(texts[at])
				b, _ := Quick(texts[at])
				r, _ := Play(texts[at], []byte("abc"), 5000)
				if !sameImage(a, images[at]) || !sameImage(b, quick[at]) || !sameRan(r, runs[at]) {
					t.Errorf("something else comes of %.300q", texts[at])
				}
			}
		}()
	}
	done.Wait()
}

// FuzzTexts: whatever the text is, each call ends, and they tell what the chapters above tell.
func FuzzTexts(f *testing.F) {
	for _, text := range []string{tellsA, cat, wide, places, known, "", "x", "void main() { break; }", nodes(api.MaxBuild + 1), shrinks()[0], strings.ToUpper(tellsA)} {
		f.Add(text, []byte("a b"), 2000)
	}
	f.Fuzz(func(t *testing.T, text string, input []byte, fuel int) {
		a, fa := Compile(text)
		if want, g := compiled(text); fa != g || !sameImage(a, want) {
			t.Fatalf("Compile: %v comes, not %v", fa, g)
		}
		b, fb := Quick(text)
		if want, g := quickened(text); fb != g || !sameImage(b, want) {
			t.Fatalf("Quick: %v comes, not %v", fb, g)
		}
		if fa == (api.Fault{}) && fb != fa {
			t.Fatalf("Quick: %v comes where Compile's is built", fb)
		}
		r, fr := Play(text, input, fuel)
		if fa != (api.Fault{}) && fr != fa || fr != (api.Fault{}) && !sameRan(r, api.Ran{}) || r.How == api.RanBad {
			t.Fatalf("%s, %v comes where Compile tells %v", brief(r), fr, fa)
		}
	})
}
