package object

import (
	"encoding/binary"
	"math/rand"
	"slices"
	"strings"
	"testing"

	"pairlegal/api"
)

// sumOf is the check sum worked out in another way than Crc does: a byte at once, by a table of what eight moves make of a byte.
func sumOf(b []byte) int {
	sum := 65535
	for _, x := range b {
		sum = sum%256*256 ^ eight[sum/256^int(x)]
	}
	return sum
}

// eight has for each byte the remainder of the byte times x^16, divided by x^16 + x^12 + x^5 + 1, bits being coefficients.
var eight = func() (out [256]int) {
	for n := range out {
		rest := n << 16
		for place := 23; place >= 16; place-- {
			if rest&(1<<place) != 0 {
				rest ^= (1<<16 | 1<<12 | 1<<5 | 1) << (place - 16)
			}
		}
		out[n] = rest
	}
	return out
}()

// sealed puts the check sum behind bytes.
func sealed(b []byte) []byte {
	return binary.BigEndian.AppendUint16(slices.Clone(b), uint16(sumOf(b)))
}

// body is what stands ahead of the check sum in the file of an image, whatever is wrong with that one, but that names have at most 255 bytes.
func body(i api.Image) []byte {
	out := []byte{'P', 'L', '1', '6'}
	for _, l := range [][]int{i.Words, i.Units} {
		out = binary.BigEndian.AppendUint32(out, uint32(len(l)))
		for _, w := range l {
			out = binary.BigEndian.AppendUint16(out, uint16(w))
		}
	}
	out = binary.BigEndian.AppendUint32(out, uint32(len(i.Spots)))
	for _, s := range i.Spots {
		out = append(out, byte(len(s.Name)))
		out = append(out, s.Name...)
		out = binary.BigEndian.AppendUint32(out, uint32(s.At))
	}
	return out
}

// fileOf is the file that an image has by body and sumOf.
func fileOf(i api.Image) []byte { return sealed(body(i)) }

func same(a, b api.Image) bool {
	return slices.Equal(a.Words, b.Words) && slices.Equal(a.Units, b.Units) && slices.Equal(a.Spots, b.Spots)
}

func empty(i api.Image) bool { return len(i.Words)+len(i.Units)+len(i.Spots) == 0 }

// cloned shares nothing with the image.
func cloned(i api.Image) api.Image {
	out := api.Image{Words: slices.Clone(i.Words), Units: slices.Clone(i.Units)}
	for _, s := range i.Spots {
		out.Spots = append(out.Spots, spot(strings.Clone(s.Name), s.At))
	}
	return out
}

func spot(name string, at int) api.Spot { return api.Spot{Name: name, At: at} }

// words are n words that are not all alike.
func words(n int) []int {
	out := make([]int, n)
	for i := range out {
		out[i] = (i*40503 + 7) % 65536
	}
	return out
}

func spots(n int) []api.Spot {
	out := make([]api.Spot, n)
	for i := range out {
		out[i] = spot("l"+strings.Repeat("_", i%32), i*17%65537)
	}
	return out
}

// greatest is an image that has as much of everything as there may be.
func greatest() api.Image {
	i := api.Image{Words: words(api.MaxMem), Units: words(api.MaxUnits), Spots: spots(api.MaxSpots)}
	for n := range i.Spots {
		i.Spots[n].Name = strings.Repeat("z", api.MaxName)
	}
	return i
}

// few are images by hand with which nothing is wrong.
func few() []api.Image {
	return []api.Image{
		{},
		{Words: []int{}, Units: []int{}, Spots: []api.Spot{}},
		{Words: []int{0}},
		{Words: []int{65535}},
		{Units: []int{0}},
		{Units: []int{65535}},
		{Units: []int{7, 7, 3}},
		{Spots: []api.Spot{spot("a", 0)}},
		{Spots: []api.Spot{spot("_", 65536)}},
		{Spots: []api.Spot{spot("a", 1), spot("a", 1), spot("a", 2)}},
		{Words: []int{1, 65535}, Units: []int{0, 3}, Spots: []api.Spot{spot("a", 5), spot(".b", 65536)}},
		{Words: []int{0, 0, 0, 0}, Units: []int{0, 0}, Spots: []api.Spot{spot(strings.Repeat("z", 32), 0), spot("."+strings.Repeat("0", 31), 256)}},
		{Words: words(300), Units: words(260), Spots: spots(270)},
		{Words: []int{'P' * 257, 'L' * 257, '1' * 257, '6' * 257}, Spots: []api.Spot{spot("pl16", 16)}},
	}
}

// drawn is an image drawn at random with which nothing is wrong.
func drawn(r *rand.Rand) api.Image {
	var i api.Image
	for range r.Intn(12) {
		i.Words = append(i.Words, r.Intn(65536)>>r.Intn(17))
	}
	for range r.Intn(8) {
		i.Units = append(i.Units, r.Intn(65536)>>r.Intn(17))
	}
	for range r.Intn(8) {
		i.Spots = append(i.Spots, spot(drawnName(r), r.Intn(65537)>>r.Intn(17)))
	}
	return i
}

func drawnName(r *rand.Rand) string {
	const letters = "abcdefghijklmnopqrstuvwxyz_"
	out := ""
	if r.Intn(2) == 0 {
		out = "."
	}
	out += string(letters[r.Intn(len(letters))])
	for range r.Intn(api.MaxName - 1) {
		out += string((letters + "0123456789")[r.Intn(len(letters)+10)])
	}
	return out
}

// spoil overwrites a list, with its spare room.
func spoil[T any](l []T, with T) {
	l = l[:cap(l)]
	for i := range l {
		l[i] = with
	}
}

func spoilImage(i api.Image) {
	spoil(i.Words, -9)
	spoil(i.Units, -9)
	spoil(i.Spots, spot("", -9))
}

// saves holds that an image becomes these bytes.
func saves(t *testing.T, i api.Image, want []byte) {
	t.Helper()
	if b, err := Save(i); err != api.OK || !slices.Equal(b, want) {
		t.Errorf("%d bytes and %v come of %d words, %d units and %d spots, not %d bytes: %.60q, not %.60q", len(b), err, len(i.Words), len(i.Units), len(i.Spots), len(want), b, want)
	}
}

// loads holds that bytes become this image.
func loads(t *testing.T, b []byte, want api.Image) {
	t.Helper()
	if i, err := Load(b); err != api.OK || !same(i, want) {
		t.Errorf("%v comes of %d bytes (%.60q), and not the image with %d words, %d units and %d spots", err, len(b), b, len(want.Words), len(want.Units), len(want.Spots))
	}
}

// refuses holds that bytes become no image.
func refuses(t *testing.T, b []byte, want api.Errno) {
	t.Helper()
	if i, err := Load(b); err != want || !empty(i) {
		t.Errorf("%v comes of %d bytes (%.60q), not %v", err, len(b), b, want)
	}
}
