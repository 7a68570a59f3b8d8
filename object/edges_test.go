package object

import (
	"bytes"
	"math/rand"
	"slices"
	"strings"
	"sync"
	"testing"
	"unsafe"

	"pairlegal/api"
)

// Z1 to Z3

// given are images with which something is wrong, and such with which nothing is.
func given() []api.Image {
	out := append(few(), greatest())
	for _, f := range faults() {
		i := api.Image{Words: words(4), Units: words(4), Spots: spots(6)}
		f.put(&i)
		out = append(out, i)
	}
	return out
}

// files are bytes that are loaded, and such that are not.
func files() [][]byte {
	out := [][]byte{nil, {}, []byte("PL16"), []byte("PL16\x00\x00"), make([]byte, 400001)}
	for _, i := range given() {
		b := fileOf(i)
		out = append(out, b, b[:len(b)-1], sealed(body(i)[:len(body(i))-1]), sealed(append(body(i), 0)))
	}
	return out
}

// told is all that the four calls tell of an image, or of bytes.
type told struct {
	sum   int
	file  []byte
	image api.Image
	err   api.Errno
	wrong api.Errno
}

func toldOfImage(i api.Image) (a told) {
	a.file, a.err = Save(i)
	a.wrong = Wrong(i)
	return a
}

func toldOfBytes(b []byte) (a told) {
	a.sum = Crc(b)
	a.image, a.err = Load(b)
	return a
}

func (a told) same(b told) bool {
	return a.sum == b.sum && a.err == b.err && a.wrong == b.wrong && bytes.Equal(a.file, b.file) && same(a.image, b.image)
}

func (a told) clone() told {
	a.file, a.image = slices.Clone(a.file), cloned(a.image)
	return a
}

func (a told) spoil() {
	spoil(a.file, 'x')
	spoilImage(a.image)
}

// TestAskedAgain: the same comes whenever it is asked, with other calls between, though what came ahead was overwritten.
func TestAskedAgain(t *testing.T) {
	var ofImages, ofBytes []told
	for _, i := range given() {
		a := toldOfImage(i)
		ofImages = append(ofImages, a.clone())
		a.spoil()
	}
	for _, b := range files() {
		a := toldOfBytes(b)
		ofBytes = append(ofBytes, a.clone())
		a.spoil()
	}
	for n, i := range slices.Backward(given()) {
		if a := toldOfImage(i); !a.same(ofImages[n]) {
			t.Errorf("something else comes of image %d", n)
		}
	}
	for n, b := range slices.Backward(files()) {
		if a := toldOfBytes(b); !a.same(ofBytes[n]) {
			t.Errorf("something else comes of file %d", n)
		}
	}
}

// roomy is a copy of a list with room behind it, full of what must not be looked at.
func roomy[T any](l []T, with ...T) []T {
	return append(slices.Clone(l), with...)[:len(l)]
}

// behind is what lies in the room that roomy left.
func behind[T any](l []T, n int) []T { return l[len(l) : len(l)+n] }

// TestImagesAreOnlyRead: what is handed in, and the room behind it, is not changed, not looked at, and not kept.
func TestImagesAreOnlyRead(t *testing.T) {
	for n, i := range given() {
		want := toldOfImage(i).clone()
		r := api.Image{Words: roomy(i.Words, -1, 5), Units: roomy(i.Units, 65536, 6), Spots: roomy(i.Spots, spot("", -1), spot("a", 7))}
		a := toldOfImage(r)
		if !a.same(want) {
			t.Errorf("image %d: something else comes where there is room behind its lists", n)
		}
		if !same(r, i) || !slices.Equal(behind(r.Words, 2), []int{-1, 5}) || !slices.Equal(behind(r.Units, 2), []int{65536, 6}) || !slices.Equal(behind(r.Spots, 2), []api.Spot{spot("", -1), spot("a", 7)}) {
			t.Errorf("image %d was changed", n)
		}
		spoilImage(r)
		if !a.same(want) {
			t.Errorf("image %d was kept", n)
		}
	}
}

func TestBytesAreOnlyRead(t *testing.T) {
	for n, b := range files() {
		want := toldOfBytes(b).clone()
		r := roomy(b, []byte("PL16xyz")...)
		a := toldOfBytes(r)
		if !a.same(want) {
			t.Errorf("file %d: something else comes where there is room behind it", n)
		}
		if !bytes.Equal(r, b) || string(behind(r, 7)) != "PL16xyz" {
			t.Errorf("file %d was changed", n)
		}
		spoil(r, 'q')
		if !a.same(want) {
			t.Errorf("file %d was kept", n)
		}
	}
}

// TestRoomBehindIsNoFile: a file that goes on in the room behind what is handed in is a cut one.
func TestRoomBehindIsNoFile(t *testing.T) {
	file := fileOf(few()[10])
	for n := range file {
		want := api.ErrFit
		if n < 6 {
			want = api.ErrForm
		}
		refuses(t, file[:n], want)
	}
	whole := body(few()[10])
	for n := range whole {
		b := sealed(whole[:n])
		b = append(b, whole[n:]...)[:n+2]
		refuses(t, b, api.ErrForm)
	}
}

// TestNothingShared: no two lists of an answer have memory in common, and names neither with one another nor with the file.
func TestNothingShared(t *testing.T) {
	i := api.Image{Words: words(50), Units: words(50), Spots: spots(50)}
	b := fileOf(i)
	got, err := Load(b)
	if err != api.OK {
		t.Fatalf("%v comes", err)
	}
	spoil(got.Words, 1)
	if !slices.Equal(got.Units, i.Units) || !slices.Equal(got.Spots, i.Spots) {
		t.Error("words and other lists have memory in common")
	}
	spoil(got.Units, 2)
	if slices.Contains(got.Words, 2) || !slices.Equal(got.Spots, i.Spots) {
		t.Error("units and other lists have memory in common")
	}
	if !bytes.Equal(b, fileOf(i)) {
		t.Error("the file is changed with the image")
	}
	first := uintptr(unsafe.Pointer(unsafe.SliceData(b)))
	for _, s := range got.Spots {
		if at := uintptr(unsafe.Pointer(unsafe.StringData(s.Name))); at >= first && at < first+uintptr(cap(b)) {
			t.Errorf("the name %s lies in the file", s.Name)
		}
	}
	again, _ := Load(b)
	spoilImage(again)
	if slices.Contains(got.Words, -9) || slices.Contains(got.Units, -9) || slices.Contains(got.Spots, spot("", -9)) {
		t.Error("two answers have memory in common")
	}
}

// TestSavedIsNew: two files have no memory in common, nor has a file with the image.
func TestSavedIsNew(t *testing.T) {
	i := few()[10]
	one, _ := Save(i)
	two, _ := Save(i)
	spoil(one, 'x')
	if !bytes.Equal(two, fileOf(i)) || !same(i, few()[10]) {
		t.Error("files have memory in common")
	}
}

// TestNilIsEmpty: no list and a list without entries are the same.
func TestNilIsEmpty(t *testing.T) {
	for n := range 8 {
		i := api.Image{}
		if n&1 > 0 {
			i.Words = make([]int, 0, 3)
		}
		if n&2 > 0 {
			i.Units = []int{}
		}
		if n&4 > 0 {
			i.Spots = make([]api.Spot, 0, 2)
		}
		isWrong(t, i, api.OK)
		saves(t, i, fileOf(api.Image{}))
	}
	if Crc(nil) != Crc([]byte{}) || Crc(nil) != Crc(make([]byte, 0, 8)) {
		t.Error("no bytes have different sums")
	}
	for _, b := range [][]byte{nil, {}, make([]byte, 0, 30)} {
		refuses(t, b, api.ErrForm)
	}
}

// TestSideBySide: many calls at once tell what each one tells alone.
func TestSideBySide(t *testing.T) {
	images, all := few(), files()
	var ofImages, ofBytes []told
	for _, i := range images {
		ofImages = append(ofImages, toldOfImage(i).clone())
	}
	for _, b := range all {
		ofBytes = append(ofBytes, toldOfBytes(b).clone())
	}
	var workers sync.WaitGroup
	for range 8 {
		workers.Go(func() {
			for n, i := range images {
				if a := toldOfImage(i); !a.same(ofImages[n]) {
					t.Errorf("something else comes of image %d", n)
				}
			}
			for n, b := range all {
				if a := toldOfBytes(b); !a.same(ofBytes[n]) {
					t.Errorf("something else comes of file %d", n)
				}
			}
		})
	}
	workers.Wait()
}

// TestRubbish: whatever bytes come in, the call answers.
func TestRubbish(t *testing.T) {
	r := rand.New(rand.NewSource(7))
	for n := range 3000 {
		b := make([]byte, r.Intn(1+n))
		r.Read(b)
		likeModel(t, b)
		marked := append([]byte("PL16"), b...)
		likeModel(t, marked)
		likeModel(t, sealed(marked))
	}
	for _, x := range []string{"\x00", "\xff", "P", "PL16"} {
		b := []byte(strings.Repeat(x, 400000/len(x)))
		likeModel(t, b)
		likeModel(t, sealed(b[:len(b)-2]))
	}
}
