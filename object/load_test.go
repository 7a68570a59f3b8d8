package object

import (
	"bytes"
	"encoding/binary"
	"fmt"
	"io"
	"math/rand"
	"runtime"
	"slices"
	"strings"
	"testing"

	"pairlegal/api"
)

// Q3

// model is Load in another way: what can be read of the bytes is written again, and must be the same.
func model(b []byte) (api.Image, api.Errno) {
	if len(b) > 400000 {
		return api.Image{}, api.ErrMuch
	}
	if len(b) < 6 || !bytes.HasPrefix(b, []byte("PL16")) {
		return api.Image{}, api.ErrForm
	}
	if ahead := b[:len(b)-2]; !bytes.Equal(sealed(ahead), b) {
		return api.Image{}, api.ErrFit
	}
	i := guessed(bytes.NewReader(b[4 : len(b)-2]))
	if !bytes.Equal(fileOf(i), b) {
		return api.Image{}, api.ErrForm
	}
	if err := modelWrong(i); err != api.OK {
		return api.Image{}, err
	}
	return i, api.OK
}

// guessed reads what is there; what is missing is 0.
func guessed(r *bytes.Reader) (i api.Image) {
	number := func(size int) int {
		b := make([]byte, 4)
		io.ReadFull(r, b[4-size:])
		return int(binary.BigEndian.Uint32(b))
	}
	for n := number(4); n > 0 && r.Len() > 0; n-- {
		i.Words = append(i.Words, number(2))
	}
	for n := number(4); n > 0 && r.Len() > 0; n-- {
		i.Units = append(i.Units, number(2))
	}
	for n := number(4); n > 0 && r.Len() > 0; n-- {
		name := make([]byte, number(1))
		io.ReadFull(r, name)
		i.Spots = append(i.Spots, api.Spot{Name: string(name), At: number(4)})
	}
	return i
}

// modelWrong is what can be wrong with an image that was read.
func modelWrong(i api.Image) api.Errno {
	if len(i.Words) > 65536 || len(i.Units) > 400 || len(i.Spots) > 4000 {
		return api.ErrMany
	}
	for _, s := range i.Spots {
		if !aName.MatchString(s.Name) {
			return api.ErrName
		}
		if s.At > 65536 {
			return api.ErrRange
		}
	}
	return api.OK
}

// likeModel holds that Load answers what the model does.
func likeModel(t *testing.T, b []byte) {
	t.Helper()
	i, err := Load(b)
	want, wantErr := model(b)
	if err != wantErr || !same(i, want) {
		t.Fatalf("%v comes of %q, not %v", err, b, wantErr)
	}
	if again, saveErr := Save(i); err == api.OK && (saveErr != api.OK || !bytes.Equal(again, b)) {
		t.Fatalf("%q was loaded, and %q (%v) is saved", b, again, saveErr)
	}
}

// TestLoaded: what is saved is loaded.
func TestLoaded(t *testing.T) {
	for _, i := range append(few(), greatest()) {
		loads(t, fileOf(i), i)
		b, _ := Save(i)
		loads(t, b, i)
	}
	r := rand.New(rand.NewSource(5))
	for range 20000 {
		i := drawn(r)
		loads(t, fileOf(i), i)
	}
}

// TestTooMuch: bytes beyond the bound are not looked at; just at the bound they are.
func TestTooMuch(t *testing.T) {
	refuses(t, make([]byte, 400001), api.ErrMuch)
	refuses(t, make([]byte, 400000), api.ErrForm)
	refuses(t, make([]byte, 3000000), api.ErrMuch)
	refuses(t, append([]byte("PL16"), make([]byte, 400000-4)...), api.ErrFit)
	refuses(t, append([]byte("PL16"), make([]byte, 400001-4)...), api.ErrMuch)
	full := api.Image{Words: words(400000/2 - 9)}
	if n := len(fileOf(full)); n != 400000 {
		t.Fatalf("the test's file has %d bytes", n)
	}
	refuses(t, fileOf(full), api.ErrMany)
	refuses(t, sealed(body(full)[:400000-3]), api.ErrForm)
	refuses(t, fileOf(api.Image{Words: words(400000/2 - 8)}), api.ErrMuch)
	refuses(t, sealed(append(body(full), 0)), api.ErrMuch)
}

// TestBeginning: less than the mark and a sum, and other marks, whatever the sum is.
func TestBeginning(t *testing.T) {
	whole := fileOf(few()[10])
	for n := range 6 {
		refuses(t, whole[:n], api.ErrForm)
		refuses(t, make([]byte, n), api.ErrForm)
	}
	for n := range 4 {
		refuses(t, sealed([]byte("PL16")[:n]), api.ErrForm)
	}
	refuses(t, nil, api.ErrForm)
	refuses(t, []byte("PL16"), api.ErrForm)
	refuses(t, []byte("PL16\x00"), api.ErrForm)
	refuses(t, []byte("PL16\x00\x00"), api.ErrFit)
	refuses(t, sealed([]byte("PL16")), api.ErrForm)
	for at := range 4 {
		for change := 1; change < 256; change++ {
			b := body(few()[10])
			b[at] ^= byte(change)
			refuses(t, sealed(b), api.ErrForm)
			refuses(t, append(b, 0, 0), api.ErrForm)
		}
	}
	for _, mark := range []string{"pl16", "PL17", "PL1", "PL166", "61LP", "\x00PL16", "PL 16", " PL16"} {
		refuses(t, sealed([]byte(mark+strings.Repeat("\x00", 12))), api.ErrForm)
	}
}

// TestChanged: any byte, or two that stand together, changed to whatever it be: no such file is loaded.
func TestChanged(t *testing.T) {
	want := few()[10]
	file := fileOf(want)
	for at := range file {
		for n := 1; n < 65536; n++ {
			b := slices.Clone(file)
			b[at] ^= byte(n)
			if at+1 < len(b) {
				b[at+1] ^= byte(n >> 8)
			} else if n > 255 {
				break
			}
			err := api.ErrFit
			if at < 4 && !bytes.HasPrefix(b, []byte("PL16")) {
				err = api.ErrForm
			}
			if i, got := Load(b); got != err || !empty(i) {
				t.Fatalf("%v comes, not %v, of %q", got, err, b)
			}
		}
	}
	loads(t, file, want)
}

// TestGreatestChanged: at many places of a long file.
func TestGreatestChanged(t *testing.T) {
	file := fileOf(greatest())
	for at := 4; at < len(file); at += 4999 {
		b := slices.Clone(file)
		b[at]++
		refuses(t, b, api.ErrFit)
	}
	refuses(t, file[:len(file)-1], api.ErrFit)
	refuses(t, append(slices.Clone(file), 1), api.ErrFit)
	// The sum's lower byte and a nought are the sum of all ahead of them.
	refuses(t, append(slices.Clone(file), 0), api.ErrForm)
}

// TestSumTurned: the sum's bytes stand in this order, the higher one first, and are nobody else's.
func TestSumTurned(t *testing.T) {
	b := body(few()[10])
	sum := sumOf(b)
	refuses(t, append(slices.Clone(b), byte(sum), byte(sum>>8)), api.ErrFit)
	refuses(t, append(slices.Clone(b), byte(^sum>>8), byte(^sum)), api.ErrFit)
	refuses(t, append(slices.Clone(b), 0, 0), api.ErrFit)
	inner := sumOf(b[4:])
	refuses(t, append(slices.Clone(b), byte(inner>>8), byte(inner)), api.ErrFit)
}

// TestCut: of each file by hand each beginning, and each that goes on, with a sum that is right.
func TestCut(t *testing.T) {
	for _, i := range few() {
		b := body(i)
		for n := range len(b) {
			refuses(t, sealed(b[:n]), api.ErrForm)
		}
		for n := 1; n < 20; n++ {
			refuses(t, sealed(append(slices.Clone(b), make([]byte, n)...)), api.ErrForm)
			refuses(t, sealed(append(slices.Clone(b), b[4:min(4+n, len(b))]...)), api.ErrForm)
		}
		refuses(t, sealed(sealed(b)), api.ErrForm)
	}
}

// TestCounts: files that claim more than they have, or less.
func TestCounts(t *testing.T) {
	i := few()[10]
	for _, place := range []int{4, 12, 20} { // how many words, units and spots
		for _, n := range []int{0, 1, 3, 4, 5, 6, 7, 8, 255, 256, 257, 258, 400, 401, 4001, 65536, 65537, 65538, 1 << 24, 1<<24 + 2, 1<<31 - 1, 1 << 31, 1<<31 + 2, 1<<32 - 2, 1<<32 - 1} {
			b := body(i)
			binary.BigEndian.PutUint32(b[place:], uint32(n))
			if got, err := Load(sealed(b)); err != api.ErrForm || !empty(got) {
				t.Fatalf("%v comes of the number %d at %d", err, n, place)
			}
			likeModel(t, sealed(b))
		}
	}
	for _, n := range []int{0, 2, 3, 7, 32, 33, 128, 255} {
		b := body(i)
		b[24] = byte(n)
		refuses(t, sealed(b), api.ErrForm)
		b = body(i)
		b[len(b)-7] = byte(n + n%2)
		likeModel(t, sealed(b))
	}
}

// TestClaims: a short file that claims far more than it has is refused, and no room is asked for that is not needed.
func TestClaims(t *testing.T) {
	for _, list := range []string{"", "\x00\x00\x00\x00", "\x00\x00\x00\x00\x00\x00\x00\x00"} {
		for _, claim := range []uint32{1 << 16, 1 << 20, 1 << 31, 1<<32 - 1} {
			b := binary.BigEndian.AppendUint32([]byte("PL16"+list), claim)
			file := sealed(append(b, 0, 1, 0, 2, 0, 3))
			if room := roomOf(func() { refuses(t, file, api.ErrForm) }); room > 100000 {
				t.Fatalf("%d bytes of room are asked for by a file of %d bytes that claims %d", room, len(file), claim)
			}
		}
	}
}

// roomOf is how many bytes are asked for while something is done.
func roomOf(do func()) uint64 {
	var ahead, behind runtime.MemStats
	runtime.ReadMemStats(&ahead)
	do()
	runtime.ReadMemStats(&behind)
	return behind.TotalAlloc - ahead.TotalAlloc
}

// TestWrongIsTold: files of the form that Save has, of numbers and names that no image may have.
func TestWrongIsTold(t *testing.T) {
	one := func(s ...api.Spot) api.Image { return api.Image{Words: words(3), Units: words(2), Spots: s} }
	for _, c := range []struct {
		i    api.Image
		want api.Errno
	}{
		{api.Image{Words: words(65536)}, api.OK},
		{api.Image{Words: words(65537)}, api.ErrMany},
		{api.Image{Words: words(131072)}, api.ErrMany},
		{api.Image{Units: words(400)}, api.OK},
		{api.Image{Units: words(401)}, api.ErrMany},
		{api.Image{Units: words(65536)}, api.ErrMany},
		{api.Image{Spots: spots(4000)}, api.OK},
		{api.Image{Spots: spots(4001)}, api.ErrMany},
		{api.Image{Spots: make([]api.Spot, 65536)}, api.ErrMany},
		{api.Image{Words: words(65537), Spots: []api.Spot{spot("A", 65537)}}, api.ErrMany},
		{one(spot("", 0)), api.ErrName},
		{one(spot("A", 0)), api.ErrName},
		{one(spot("\x00", 0)), api.ErrName},
		{one(spot("a.b", 0)), api.ErrName},
		{one(spot("PL16", 0)), api.ErrName},
		{one(spot(strings.Repeat("a", 32), 0)), api.OK},
		{one(spot(strings.Repeat("a", 33), 0)), api.ErrName},
		{one(spot(strings.Repeat("a", 127), 0)), api.ErrName},
		{one(spot(strings.Repeat("a", 128), 0)), api.ErrName},
		{one(spot(strings.Repeat("\xff", 255), 0)), api.ErrName},
		{one(spot("a", 65535)), api.OK},
		{one(spot("a", 65536)), api.OK},
		{one(spot("a", 65537)), api.ErrRange},
		{one(spot("a", 1<<16+1<<8)), api.ErrRange},
		{one(spot("a", 1<<24)), api.ErrRange},
		{one(spot("a", 1<<31-1)), api.ErrRange},
		{one(spot("a", 1<<31)), api.ErrRange},
		{one(spot("a", 1<<32-1)), api.ErrRange},
		{one(spot("a", 1), spot("b", 65537), spot("", 0)), api.ErrRange},
		{one(spot("a", 1), spot("B", 65537), spot("", 0)), api.ErrName},
		{one(spot("a", 1), spot("b", 2), spot("", 1<<31)), api.ErrName},
	} {
		b := fileOf(c.i)
		if c.want == api.OK {
			loads(t, b, c.i)
		} else {
			refuses(t, b, c.want)
		}
		// What is not of the form is told ahead of what is wrong with it, and a sum that is not right ahead of both.
		refuses(t, sealed(append(body(c.i), 0)), api.ErrForm)
		refuses(t, sealed(body(c.i)[:len(body(c.i))-1]), api.ErrForm)
		b[len(b)-1]++
		refuses(t, b, api.ErrFit)
	}
}

// TestAgainstModel: files with bytes changed, left out and put in, and a sum that is right behind them.
func TestAgainstModel(t *testing.T) {
	r := rand.New(rand.NewSource(6))
	told := map[string]int{}
	for n := range 200000 {
		b := body(drawn(r))
		for range r.Intn(3) {
			b = twisted(r, b)
		}
		if file := sealed(b); n%10 > 0 {
			b = file
		}
		likeModel(t, b)
		_, err := Load(b)
		told[fmt.Sprint(err)]++
	}
	for _, err := range []api.Errno{api.OK, api.ErrForm, api.ErrFit, api.ErrName, api.ErrRange} {
		if told[fmt.Sprint(err)] < 1000 {
			t.Errorf("%v comes %d times: the test is too weak", err, told[fmt.Sprint(err)])
		}
	}
}

func twisted(r *rand.Rand, b []byte) []byte {
	at := r.Intn(len(b))
	if r.Intn(10) > 0 && len(b) > 4 {
		at = 4 + r.Intn(len(b)-4)
	}
	switch r.Intn(6) {
	case 0:
		return slices.Delete(b, at, at+1)
	case 1:
		return slices.Insert(b, at, byte(r.Intn(256)))
	case 2:
		b[at] = byte(r.Intn(256))
	case 3:
		b[at]++
	default:
		b[at] ^= 1 << r.Intn(8)
	}
	return b
}

// FuzzLoad: whatever comes in, with the sum that it has, and with one that is right.
func FuzzLoad(f *testing.F) {
	for _, i := range few() {
		f.Add(body(i))
		f.Add(fileOf(i))
	}
	f.Add([]byte("PL16\xff\xff\xff\xff"))
	f.Add([]byte("PL16\x00\x00\x00\x00\x80\x00\x00\x00\x00\x00\x00\x00"))
	f.Fuzz(func(t *testing.T, b []byte) {
		likeModel(t, b)
		likeModel(t, sealed(b))
		likeModel(t, sealed(append([]byte("PL16"), b...)))
	})
}
