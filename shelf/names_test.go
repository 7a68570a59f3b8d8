package shelf

import (
	"crypto/sha256"
	"fmt"
	"math/rand"
	"slices"
	"strings"
	"sync"
	"testing"

	"pairlegal/api"
	"pairlegal/build"
	"pairlegal/check"
	"pairlegal/drive"
	"pairlegal/source"
)

// N1

// chapter is what the chapter has: each program's name, how many bytes its text has, and the SHA-256 of these, taken from the chapter itself.
var chapter = []struct {
	name string
	size int
	sum  string
}{
	{"ackermann", 535, "9a7b194727209a27aa4f77f488167ec2ed81a2fe182e7379b6d48a42ad43977d"},
	{"adler", 371, "ad4019e4ae3dbadf217f4b1e3b280e160c4dbb0e22bffdbf7da9e69812baf6af"},
	{"aliquot", 477, "949ab3f2ffabf12845499f4fc70d33c1b2af318ee9be02dd9e2957266350587f"},
	{"base64", 548, "8f0cfb567968ee0e0732264202d83ff91aeb2d1378fdf29bba0ced4e9103b016"},
	{"binary", 331, "a8aa0ae15f11da021afe3b7beb6193b46c917c8fac8496a89406cbfdf623face"},
	{"cat", 86, "13d3dcb40f4c8ecd43ce3f0802520c270af706e3c8450ee225c22218e175f47d"},
	{"collatz", 493, "3c9c352c4b80920079b0eea61dd318ee299aa4909fe281e36f85d09cce1219b2"},
	{"count", 284, "bf8ea2a78ecfe6c998091bc4bf14e5d886695895caa86edbd31de4f54c66ff5c"},
	{"crc", 447, "8d21901f236523792777fc22fbd01c608ede8346aad569fce937a5691628cad0"},
	{"digits", 353, "a2603265199b4d11431657495419e2270c5deaf09299c0510d905d5838e09f79"},
	{"factorial", 450, "336cd356f43722060ee4102529e6dcc4c4932f8c2f9eb9dd70edd07de296d4ea"},
	{"fibonacci", 475, "1be3c26508976e064da69620958ddc322cf9f58df1baa7b2b25e2087513e9dbe"},
	{"gcd", 452, "739ae16964b74716d8ba16096135178f7735624bf34f8f666b15f071622ba5e1"},
	{"hanoi", 327, "d8bb2f1566e47faba099a8808ea687a53d5857848fab9507c3a7a3ac160049a1"},
	{"hex", 190, "0e87120bde42d20f33f8f816915907240790b947ae97918af393716e92f7f686"},
	{"lcm", 512, "5ac77d1cacaaa167ab62024a60a4abb8902b8c3be3e0a02640a8dca3fcc45b0a"},
	{"luhn", 381, "8615a559274cd785ec533dc1603e6d918516670bb43f500b346404fbdc9d7ed5"},
	{"mirror", 235, "821ae3b3b0524392c0726d4d8d3aea924ef7245691ff75957a9c4f5a0a22ac4f"},
	{"modpow", 553, "5dce51209279fa2bc3663f97ae7b6c6b73b28bd0ed444afa9c7bd6ccb7d46894"},
	{"ones", 358, "272a34a0380c1cf366d68986882558fee8cd255d289bd0a1da60217d0711e85a"},
	{"power", 491, "a2d4960220f0b59f6103876d2fdb5cb549eae1de7aeb1212679cd7a8d2c8eae9"},
	{"primes", 562, "6ba24b00c5dd3aa0ac39e79b873fc6471a88caf80de68d6affbb80ccc736bdf0"},
	{"queens", 732, "b117325d4434aef5528e6dfd5d89089ff8fe93be1ac5054fabda97aabbd2cc68"},
	{"reverse", 181, "bade5257efb39d635d3019b6db28beafa85e06178e9596a5bbd92e060dbed34a"},
	{"root", 500, "261131a2cff043b0761db324a6787907b25025ef711bfb5466c3cc2a1166ddf1"},
	{"rot13", 164, "9379ca889dd77d57292b1fc406a2ac95390973d0920402e6527a2415e6781a7a"},
	{"sort", 271, "c2bcf3722e8fe52b08994a62848a30721540d1b959b06e8357c64dc4de905e7e"},
	{"sum", 412, "45f71fea4524e4854ce7a8a02b08308fa2d4668ca17c9bb0cc39134bc8a45135"},
	{"upper", 147, "c13d49705f803abbc21428c5e5a87e1c526846c1b56cbf4ebd0bc41fb230466d"},
	{"words", 401, "d892f3caab7aba7a663d41669e6be60bc217211eba65c4731dca3f81c5e5b041"},
}

// chapterNames are the names, in the chapter's order.
func chapterNames() (out []string) {
	for _, c := range chapter {
		out = append(out, c.name)
	}
	return out
}

// textOf is the text of a program that there must be.
func textOf(t *testing.T, name string) string {
	t.Helper()
	text, err := Text(name)
	if err != api.OK || text == "" {
		t.Fatalf("%d bytes, %d come of %q", len(text), err, name)
	}
	return text
}

func TestNames(t *testing.T) {
	want := chapterNames()
	got := Names()
	if !slices.Equal(got, want) {
		t.Errorf("%q comes, not %q", got, want)
	}
	if !slices.IsSorted(got) || len(slices.Compact(slices.Clone(got))) != 30 {
		t.Errorf("%q does not rise, or has not 30", got)
	}
}

// TestTexts: each text is the chapter's, to the byte.
func TestTexts(t *testing.T) {
	for _, c := range chapter {
		text, err := Text(c.name)
		if sum := fmt.Sprintf("%x", sha256.Sum256([]byte(text))); err != api.OK || len(text) != c.size || sum != c.sum {
			t.Errorf("%d bytes, %s, %d come of %q, not %d, %s", len(text), sum, err, c.name, c.size, c.sum)
		}
		if !strings.HasSuffix(text, "}\n") || strings.Contains(text, "\n\n") || strings.Contains(text, "\r") {
			t.Errorf("there are other lines than the chapter's in %q", text)
		}
	}
}

// TestTextByHand: a text by hand, for a sum does not show what it is of.
func TestTextByHand(t *testing.T) {
	const cat = "i16 main() {\n\ti16 c = get();\n\twhile (c >= 0) {\n\t\tput(c);\n\t\tc = get();\n\t}\n\treturn 0;\n}\n"
	if got := textOf(t, "cat"); got != cat {
		t.Errorf("%q comes, not %q", got, cat)
	}
}

// otherNames are names that no program has, next to those that programs have.
func otherNames() []string {
	out := []string{"", " ", "\n", "\x00", "nobody", "main", "dec", "num", "put", "program", "catText", "Names", "cat,count", "cat count", "cat\ncount", strings.Repeat("cat", 100000), "\xff\xfe"}
	for _, name := range chapterNames() {
		out = append(out, name+name, name+" ", " "+name, name+"\n", name+"\x00", "\x00"+name, strings.ToUpper(name), strings.ToUpper(name[:1])+name[1:], name+"s", "**"+name+"**")
		for at := range name {
			changed := []byte(name)
			changed[at]++
			out = append(out, name[:at], name[at+1:], name[:at]+name[at+1:], name[:at]+name[at:at+1]+name[at:], string(changed))
		}
	}
	return slices.DeleteFunc(out, func(name string) bool { return slices.Contains(chapterNames(), name) })
}

func TestNobodysText(t *testing.T) {
	names := otherNames()
	if len(names) < 900 {
		t.Errorf("just %d names are tried", len(names))
	}
	for _, name := range names {
		if text, err := Text(name); text != "" || err != api.ErrName {
			t.Errorf("%d bytes, %d come of %.100q", len(text), err, name)
		}
	}
}

// TestTextsAreRight: each one is read, is right and can be built, as it is and worked out ahead.
func TestTextsAreRight(t *testing.T) {
	for _, name := range Names() {
		text := textOf(t, name)
		p, fault := source.Read(text)
		if fault != (api.Fault{}) || source.Wrong(p) != api.OK {
			t.Fatalf("%s: %v comes of Read", name, fault)
		}
		if nodes := source.Nodes(p); nodes < 1 || nodes > api.MaxBuild {
			t.Errorf("%s: there are %d nodes", name, nodes)
		}
		if fault := check.Check(p); fault != (api.Fault{}) {
			t.Errorf("%s: %v comes of Check", name, fault)
		}
		if image, fault := build.Build(p); fault != (api.Fault{}) || len(image.Words) == 0 {
			t.Errorf("%s: %d words, %v come of Build", name, len(image.Words), fault)
		}
		if image, fault := drive.Quick(text); fault != (api.Fault{}) || len(image.Words) == 0 {
			t.Errorf("%s: %d words, %v come of Quick", name, len(image.Words), fault)
		}
	}
}

// TestAskedAgain: what Names handed out is written over, its spare room too, and the next call tells the same; the texts do, too, in whatever order they are asked.
func TestAskedAgain(t *testing.T) {
	texts := map[string]string{}
	for _, name := range Names() {
		texts[name] = textOf(t, name)
	}
	r := rand.New(rand.NewSource(14))
	for range 20 {
		names, twin := Names(), Names()
		if !slices.Equal(names, chapterNames()) {
			t.Fatalf("%q comes", names)
		}
		r.Shuffle(len(names), func(i, k int) { names[i], names[k] = names[k], names[i] })
		for _, name := range names {
			if got := textOf(t, name); got != texts[name] {
				t.Fatalf("another text comes of %q", name)
			}
		}
		names = names[:cap(names)]
		for i := range names {
			names[i] = "written over"
		}
		if !slices.Equal(twin, chapterNames()) {
			t.Fatalf("what two calls told is the same memory: %q", twin)
		}
		if text, err := Text("written over"); text != "" || err != api.ErrName {
			t.Fatalf("%q, %d come of what was written over", text, err)
		}
	}
}

// TestSideBySide: many ask at once, and each one gets the same.
func TestSideBySide(t *testing.T) {
	var done sync.WaitGroup
	for range 8 {
		done.Go(func() {
			names := Names()
			for i, c := range chapter {
				text, err := Text(c.name)
				if names[i] != c.name || err != api.OK || len(text) != c.size {
					t.Errorf("%q and %d bytes come of %q", names[i], len(text), c.name)
				}
				names[i] = "mine"
			}
		})
	}
	done.Wait()
}
