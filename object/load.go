package object

import "pairlegal/api"

// Load answers the image of a file.
func Load(b []byte) (api.Image, api.Errno) {
	if len(b) > api.MaxFile {
		return api.Image{}, api.ErrMuch
	}
	if len(b) < len(mark)+wordBytes || string(b[:len(mark)]) != mark {
		return api.Image{}, api.ErrForm
	}
	ahead, sum := b[:len(b)-wordBytes], b[len(b)-wordBytes:]
	if Crc(ahead) != number(sum) {
		return api.Image{}, api.ErrFit
	}
	i, whole := imageOf(ahead[len(mark):])
	if !whole {
		return api.Image{}, api.ErrForm
	}
	if err := Wrong(i); err != api.OK {
		return api.Image{}, err
	}
	return i, api.OK
}

// imageOf reads an image, whatever its numbers and names are; it tells whether the bytes are just those of an image.
func imageOf(b []byte) (api.Image, bool) {
	r := &reader{rest: b}
	i := api.Image{Words: listed(r, r.word), Units: listed(r, r.word), Spots: listed(r, r.spot)}
	return i, !r.short && len(r.rest) == 0
}

// reader takes numbers and names from the front of bytes; it is short from where it was asked for more than there is.
type reader struct {
	rest  []byte
	short bool
}

// listed reads how many there are, and each of them. It asks for no room ahead, since a file may claim more than it has.
func listed[T any](r *reader, one func() T) []T {
	var out []T
	for range r.count() {
		x := one()
		if r.short {
			return nil
		}
		out = append(out, x)
	}
	return out
}

func (r *reader) count() int { return number(r.taken(countBytes)) }

func (r *reader) word() int { return number(r.taken(wordBytes)) }

func (r *reader) spot() api.Spot {
	name := string(r.taken(number(r.taken(lengthBytes))))
	return api.Spot{Name: name, At: r.count()}
}

// taken answers nothing, and leaves nothing, where there are too few bytes.
func (r *reader) taken(n int) []byte {
	if n > len(r.rest) {
		r.short, r.rest = true, nil
		return nil
	}
	out := r.rest[:n]
	r.rest = r.rest[n:]
	return out
}

// number is the number of bytes, the highest one first.
func number(b []byte) int {
	n := 0
	for _, x := range b {
		n = n<<8 | int(x)
	}
	return n
}
