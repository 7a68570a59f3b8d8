package object

import "pairlegal/api"

// Save answers the file of an image.
func Save(i api.Image) ([]byte, api.Errno) {
	if err := Wrong(i); err != api.OK {
		return nil, err
	}
	out := []byte(mark)
	out = withWords(out, i.Words)
	out = withWords(out, i.Units)
	out = withSpots(out, i.Spots)
	return withNumber(out, Crc(out), wordBytes), api.OK
}

func withWords(out []byte, words []int) []byte {
	out = withNumber(out, len(words), countBytes)
	for _, w := range words {
		out = withNumber(out, w, wordBytes)
	}
	return out
}

func withSpots(out []byte, spots []api.Spot) []byte {
	out = withNumber(out, len(spots), countBytes)
	for _, s := range spots {
		out = withNumber(out, len(s.Name), lengthBytes)
		out = append(out, s.Name...)
		out = withNumber(out, s.At, countBytes)
	}
	return out
}

// withNumber puts so many bytes of a number behind what is there, the highest one first.
func withNumber(out []byte, n, size int) []byte {
	for place := size - 1; place >= 0; place-- {
		out = append(out, byte(n>>(8*place)))
	}
	return out
}
