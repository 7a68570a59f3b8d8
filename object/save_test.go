package object

import (
	"math/rand"
	"strings"
	"testing"

	"pairlegal/api"
)

// Q2: Save

// TestSaved: files by hand.
func TestSaved(t *testing.T) {
	saves(t, api.Image{}, []byte("PL16\x00\x00\x00\x00\x00\x00\x00\x00\x00\x00\x00\x00\xc7\x38"))
	saves(t, api.Image{Words: []int{1, 65535}, Units: []int{0, 3}, Spots: []api.Spot{spot("a", 5), spot(".b", 65536)}},
		[]byte("PL16"+"\x00\x00\x00\x02"+"\x00\x01"+"\xff\xff"+"\x00\x00\x00\x02"+"\x00\x00"+"\x00\x03"+"\x00\x00\x00\x02"+"\x01a"+"\x00\x00\x00\x05"+"\x02.b"+"\x00\x01\x00\x00"+"\x45\xc0"))
	for _, c := range []struct {
		i    api.Image
		want string
	}{
		{api.Image{Words: []int{0x1234}}, "\x00\x00\x00\x01\x12\x34" + "\x00\x00\x00\x00" + "\x00\x00\x00\x00"},
		{api.Image{Units: []int{0x1234}}, "\x00\x00\x00\x00" + "\x00\x00\x00\x01\x12\x34" + "\x00\x00\x00\x00"},
		{api.Image{Spots: []api.Spot{spot("zz", 0x1234)}}, "\x00\x00\x00\x00" + "\x00\x00\x00\x00" + "\x00\x00\x00\x01\x02zz\x00\x00\x12\x34"},
		{api.Image{Words: []int{26624, 2, 19456, 2}, Units: []int{1, 0}, Spots: []api.Spot{spot("main", 0), spot("a", 2)}},
			"\x00\x00\x00\x04\x68\x00\x00\x02\x4c\x00\x00\x02" + "\x00\x00\x00\x02\x00\x01\x00\x00" + "\x00\x00\x00\x02\x04main\x00\x00\x00\x00\x01a\x00\x00\x00\x02"},
		{api.Image{Words: make([]int, 65536)}, "\x00\x01\x00\x00" + strings.Repeat("\x00", 131072) + "\x00\x00\x00\x00" + "\x00\x00\x00\x00"},
		{api.Image{Units: make([]int, 400)}, "\x00\x00\x00\x00" + "\x00\x00\x01\x90" + strings.Repeat("\x00", 800) + "\x00\x00\x00\x00"},
	} {
		saves(t, c.i, sealed([]byte("PL16"+c.want)))
	}
}

// TestSavedIsWritten: images by hand and drawn at random, against files that are put together in another way.
func TestSavedIsWritten(t *testing.T) {
	for _, i := range append(few(), greatest()) {
		saves(t, i, fileOf(i))
	}
	r := rand.New(rand.NewSource(1))
	for range 20000 {
		i := drawn(r)
		saves(t, i, fileOf(i))
	}
	for n := range 65536 {
		if n%251 == 0 || n > 65530 {
			saves(t, api.Image{Words: words(n), Units: words(n % 401), Spots: spots(n % 4001)}, fileOf(api.Image{Words: words(n), Units: words(n % 401), Spots: spots(n % 4001)}))
		}
	}
}

// TestGreatestFits: the file of the greatest image may be loaded.
func TestGreatestFits(t *testing.T) {
	b, err := Save(greatest())
	if want := 4 + 4 + 2*65536 + 4 + 2*400 + 4 + 4000*(1+32+4) + 2; err != api.OK || len(b) != want || want > api.MaxFile {
		t.Fatalf("%d bytes and %v come, not %d", len(b), err, want)
	}
	loads(t, b, greatest())
}

// TestFilesDiffer: no two images have the same file.
func TestFilesDiffer(t *testing.T) {
	r := rand.New(rand.NewSource(4))
	seen := map[string]api.Image{}
	for range 20000 {
		i := drawn(r)
		b, _ := Save(i)
		if other, there := seen[string(b)]; there && !same(i, other) {
			t.Fatalf("%v and %v have one file", i, other)
		}
		seen[string(b)] = i
	}
}
