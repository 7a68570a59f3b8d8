package object

import (
	"math"
	"regexp"
	"slices"
	"strings"
	"testing"

	"pairlegal/api"
)

// Q2: Wrong

func isWrong(t *testing.T, i api.Image, want api.Errno) {
	t.Helper()
	if err := Wrong(i); err != want {
		t.Errorf("%v comes of %d words, %d units and %d spots, not %v", err, len(i.Words), len(i.Units), len(i.Spots), want)
	}
	if b, err := Save(i); want != api.OK && (err != want || len(b) != 0) {
		t.Errorf("Save: %d bytes and %v come, not %v", len(b), err, want)
	}
}

func TestNothingWrong(t *testing.T) {
	for _, i := range append(few(), greatest()) {
		isWrong(t, i, api.OK)
	}
}

// TestTooMany: of each kind just as many as there may be, and more.
func TestTooMany(t *testing.T) {
	for _, c := range []struct {
		words, units, spots int
		want                api.Errno
	}{
		{65536, 400, 4000, api.OK},
		{65536, 0, 0, api.OK},
		{65537, 0, 0, api.ErrMany},
		{100000, 0, 0, api.ErrMany},
		{0, 400, 0, api.OK},
		{0, 401, 0, api.ErrMany},
		{0, 65536, 0, api.ErrMany},
		{0, 0, 4000, api.OK},
		{0, 0, 4001, api.ErrMany},
		{0, 0, 65536, api.ErrMany},
		{65537, 401, 4001, api.ErrMany},
	} {
		isWrong(t, api.Image{Words: words(c.words), Units: words(c.units), Spots: spots(c.spots)}, c.want)
	}
}

var wild = []int{math.MinInt, -1 << 32, -65536, -2, -1, 65536, 65537, 1 << 31, 1 << 32, 1<<32 + 1, math.MaxInt}

// TestRange: words and units of each kind, at each place.
func TestRange(t *testing.T) {
	for _, n := range []int{0, 1, 255, 256, 32767, 32768, 65534, 65535} {
		isWrong(t, api.Image{Words: []int{n}}, api.OK)
		isWrong(t, api.Image{Units: []int{n}}, api.OK)
	}
	for _, n := range wild {
		for at := range 5 {
			l := words(5)
			l[at] = n
			isWrong(t, api.Image{Words: l}, api.ErrRange)
			isWrong(t, api.Image{Units: l}, api.ErrRange)
			isWrong(t, api.Image{Words: l, Units: []int{1}, Spots: spots(3)}, api.ErrRange)
			isWrong(t, api.Image{Words: []int{1}, Units: l, Spots: spots(3)}, api.ErrRange)
		}
	}
	i := greatest()
	i.Words[api.MaxMem-1] = -1
	isWrong(t, i, api.ErrRange)
	i = greatest()
	i.Units[api.MaxUnits-1] = 65536
	isWrong(t, i, api.ErrRange)
}

// TestPlaces: a label may lie behind all memory, but no further.
func TestPlaces(t *testing.T) {
	for _, at := range []int{0, 1, 65535, 65536} {
		isWrong(t, api.Image{Spots: []api.Spot{spot("a", at)}}, api.OK)
	}
	for _, at := range wild {
		want := api.ErrRange
		if at == 65536 {
			want = api.OK
		}
		for n := range 4 {
			l := spots(4)
			l[n].At = at
			isWrong(t, api.Image{Spots: l}, want)
		}
	}
	i := greatest()
	i.Spots[api.MaxSpots-1].At = 65537
	isWrong(t, i, api.ErrRange)
}

var aName = regexp.MustCompile(`\A(\.[a-z_0-9]{1,31}|[a-z_][a-z_0-9]{0,31})\z`)

// TestNames: by hand, and each one of one byte and of two.
func TestNames(t *testing.T) {
	for _, s := range []string{"a", "z", "_", "_9", ".a", ".0", "._", "halt", strings.Repeat("a", 32), "." + strings.Repeat("9", 31)} {
		isWrong(t, api.Image{Spots: []api.Spot{spot(s, 0)}}, api.OK)
	}
	for _, s := range []string{"", ".", "..", "A", "0", "9a", "a.", "a.b", "..a", "a b", " a", "a:", "a\x00", "\xff", "ä", strings.Repeat("a", 33), "." + strings.Repeat("a", 32), strings.Repeat("a", 255), strings.Repeat("a", 256), strings.Repeat("a", 257), strings.Repeat("a", 100000)} {
		for n := range 3 {
			l := spots(3)
			l[n].Name = s
			isWrong(t, api.Image{Spots: l}, api.ErrName)
		}
	}
	for n := range 65536 {
		two := string([]byte{byte(n >> 8), byte(n)})
		for _, s := range []string{two, two[:1]} {
			if got := Wrong(api.Image{Spots: []api.Spot{spot(s, 0)}}); (got == api.OK) != aName.MatchString(s) || got != api.OK && got != api.ErrName {
				t.Fatalf("%v comes of the name %q", got, s)
			}
		}
	}
	i := greatest()
	i.Spots[api.MaxSpots-1].Name = "Z"
	isWrong(t, i, api.ErrName)
}

// fault is one thing that is wrong with an image.
type fault struct {
	name string
	put  func(i *api.Image)
	want api.Errno
}

// faults are in the order in which they are told, but for the first three, which are told alike.
func faults() []fault {
	return []fault{
		{"words too many", func(i *api.Image) { i.Words = append(i.Words, words(api.MaxMem)...) }, api.ErrMany},
		{"units too many", func(i *api.Image) { i.Units = append(i.Units, words(api.MaxUnits)...) }, api.ErrMany},
		{"spots too many", func(i *api.Image) { i.Spots = append(i.Spots, spots(api.MaxSpots)...) }, api.ErrMany},
		{"a word", func(i *api.Image) { i.Words[1] = -1 }, api.ErrRange},
		{"the last word", func(i *api.Image) { i.Words[len(i.Words)-1] = 65536 }, api.ErrRange},
		{"a unit", func(i *api.Image) { i.Units[1] = 65536 }, api.ErrRange},
		{"the last unit", func(i *api.Image) { i.Units[len(i.Units)-1] = -1 }, api.ErrRange},
		{"a name", func(i *api.Image) { i.Spots[1].Name = "" }, api.ErrName},
		{"a place", func(i *api.Image) { i.Spots[1].At = -1 }, api.ErrRange},
		{"another place", func(i *api.Image) { i.Spots[2].At = 65537 }, api.ErrRange},
		{"another name", func(i *api.Image) { i.Spots[3].Name = "A" }, api.ErrName},
		{"one more place", func(i *api.Image) { i.Spots[4].At = -1 }, api.ErrRange},
	}
}

// TestOrder: of each two faults the first one is told, and of all of them behind one another, too.
func TestOrder(t *testing.T) {
	l := faults()
	for n, first := range l {
		for _, second := range l[n:] {
			i := api.Image{Words: words(4), Units: words(4), Spots: spots(6)}
			second.put(&i)
			first.put(&i)
			if got := Wrong(i); got != first.want {
				t.Errorf("%v comes of %s and %s, not %v", got, first.name, second.name, first.want)
			}
		}
	}
	for n := range l {
		i := api.Image{Words: words(4), Units: words(4), Spots: spots(6)}
		for _, f := range slices.Backward(l[n:]) {
			f.put(&i)
		}
		isWrong(t, i, l[n].want)
	}
}
