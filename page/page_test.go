package page_test

import (
	"math"
	"math/rand"
	"slices"
	"strings"
	"testing"
	"unsafe"

	"withy/api"
	"withy/cell"
	"withy/chain"
	"withy/inner"
	"withy/leaf"
	"withy/meta"
	"withy/page"
)

// noKinds are numbers that are no Kind, some of them the same as one in their lowest bytes.
var noKinds = []int{math.MinInt, math.MinInt + 1, math.MinInt + 2, -1<<32 + 3, -256, -255, -4, -3, -2, -1, 0, 5, 6, 7, 8, 255, 256, 257, 258, 259, 260, 1 << 16, 1<<16 + 2, 1<<31 - 1, 1 << 31, 1 << 32, 1<<32 + 1, 1<<32 + 2, 1<<32 + 3, 1<<32 + 4, 1<<62 + 4, math.MaxInt - 1, math.MaxInt}

// noPlaces are places that no list has that a test hands in.
var noPlaces = []int{math.MinInt, math.MinInt + 1, math.MinInt + 2, -1 << 32, -1<<32 + 1, -1<<32 + 3, -4096, -256, -3, -2, -1, 1<<16 + 1, 1<<31 - 1, 1 << 31, 1 << 32, 1<<32 + 1, 1<<32 + 3, 1 << 62, math.MaxInt - 1, math.MaxInt}

// some are pages of each Kind, of p bytes, at the edges of what may be and within.
func some(p int) []page.Page {
	items := append(pairs("ab", "x", "abc", "yz", "abcd", "", "abd", "\x00"), leaf.Item{Key: "abe", V: cell.Value{Over: true, Len: 1000, Page: 0x0607}})
	return []page.Page{
		ofMeta(meta.Meta{P: p, Pages: 2, Root: 1}),
		ofMeta(meta.Meta{P: p, Pages: 4096, Root: 4095, Level: 255, Pairs: math.MaxInt32}),
		ofMeta(meta.Meta{P: p, Pages: 0x0304, Root: 0x0102, Level: 5, Pairs: 0x06070809}),
		ofLeaf(leaf.Leaf{Self: 1}),
		ofLeaf(leaf.Leaf{Self: 4095, Right: 4094, High: long(p / 8), Items: pairs("", long(p/4))}),
		ofLeaf(leaf.Leaf{Self: 0x0203, Right: 0x0405, High: "abz", Items: items}),
		ofInner(inner.Inner{Self: 1, Level: 1, Kids: []int{1}}),
		ofInner(inner.Inner{Self: 4095, Level: 255, Right: 4094, High: long(p / 8), Kids: []int{4095, 1}, Seps: []string{long(p/8 - 1)}}),
		ofInner(inner.Inner{Self: 0x0203, Level: 2, Right: 0x0405, High: "q", Kids: []int{1, 0x0102, 5}, Seps: []string{"ka", "kbc"}}),
		ofChain(chain.Chain{Self: 1, Data: "\x00"}),
		ofChain(chain.Chain{Self: 4095, Next: 4094, Data: long(p - 16)}),
		ofChain(chain.Chain{Self: 0x0203, Data: "abc"}),
	}
}

// decodes looks whether Decode tells a page.
func decodes(t *testing.T, s string, want page.Page) {
	t.Helper()
	if got, e := page.Decode(s); !equal(got, want) || e != api.OK {
		t.Fatalf("Decode(%q): %s, %d; want %s", s, shown(got), e, shown(want))
	}
}

// none looks whether Decode tells that s is no page, and nothing beside it.
func none(t *testing.T, s string) {
	t.Helper()
	if x, e := page.Decode(s); !equal(x, page.Page{}) || e != api.ErrForm {
		t.Fatalf("Decode of %d bytes, %.80q: %s, %d; want ErrForm", len(s), s, shown(x), e)
	}
}

// asModel looks whether Decode tells what the model does, and answers the Kind of the page that s is; 0, if it is none.
func asModel(t *testing.T, s string) int {
	t.Helper()
	want, e := decodeOf(t, s)
	if e != api.OK {
		none(t, s)
		return 0
	}
	decodes(t, s, want)
	return want.Kind
}

// at looks whether At tells what is wanted of a place.
func at(t *testing.T, l []string, i int, want page.Page, wantErrno api.Errno) {
	t.Helper()
	if got, e := page.At(l, i); !equal(got, want) || e != wantErrno {
		t.Fatalf("At %d of %d texts: %s, %d; want %s, %d", i, len(l), shown(got), e, shown(want), wantErrno)
	}
}

// surveys looks whether Survey tells Kinds, and the same as the model.
func surveys(t *testing.T, l []string, want ...int) {
	t.Helper()
	if got := page.Survey(l); !slices.Equal(got, want) || !slices.Equal(want, surveyOf(t, l)) {
		t.Fatalf("Survey of %d texts: %v; want %v", len(l), got, want)
	}
}

// The chapter's example.
func TestExample(t *testing.T) {
	x := ofLeaf(leaf.Leaf{Self: 3})
	s := encoded(t, x, 128)
	l := []string{"", "", s, s}
	at(t, l, 3, x, api.OK)
	at(t, l, 2, page.Page{}, api.ErrForm)
}

// P14.1: pages of each Kind and each size, of which all else is zero.
func TestDecode(t *testing.T) {
	for _, p := range sizes {
		for _, x := range some(p) {
			s := encoded(t, x, p)
			decodes(t, s, x)
			if got := asModel(t, s); got != x.Kind {
				t.Fatalf("%s is of Kind %d", shown(x), got)
			}
		}
	}
}

// P14.1: the bytes of a page of each Kind, place by place.
func TestDecodePlaces(t *testing.T) {
	zeros := strings.Repeat("\x00", 128)
	sum := zeros[:4]
	for _, x := range []struct {
		s    string
		want page.Page
	}{
		{"\x01\x05\x00\x00" + "\x02\x01\x00\x00" + zeros[:4] + sum + "withy\x80\x00\x00\x00\x04\x03\x00\x00\x09\x08\x07\x06" + zeros[:94] + "W",
			page.Page{Kind: 1, M: meta.Meta{P: 128, Pages: 0x0304, Root: 0x0102, Level: 5, Pairs: 0x06070809}}},
		{"\x02\x00\x02\x00" + "\x05\x04\x00\x00" + "\x03\x02\x00\x00" + sum + "\x01a\x01b" + "\x01b\x00\x01x" + "\x01c\x01\xf0\x07\x06\x00\x00" + zeros[:89] + "\x11\x00\x09\x00\x04\x00",
			page.Page{Kind: 2, L: leaf.Leaf{Self: 0x0203, Right: 0x0405, High: "b", Items: []leaf.Item{{Key: "ab", V: cell.Value{S: "x"}}, {Key: "ac", V: cell.Value{Over: true, Len: 240, Page: 0x0607}}}}}},
		{"\x03\x09\x02\x00" + "\x05\x04\x00\x00" + "\x03\x02\x00\x00" + sum + "\x01m\x01q" + "\x06\x00\x00\x00\x00" + "\x08\x07\x00\x00\x00" + zeros[:92] + "\x0e\x00\x09\x00\x04\x00",
			page.Page{Kind: 3, N: inner.Inner{Self: 0x0203, Level: 9, Right: 0x0405, High: "q", Kids: []int{6, 0x0708}, Seps: []string{"m"}}}},
		{"\x04\x00\x03\x00" + zeros[:4] + "\x03\x02\x00\x00" + sum + "abc" + zeros[:109],
			page.Page{Kind: 4, C: chain.Chain{Self: 0x0203, Data: "abc"}}},
	} {
		if len(x.s) != 128 {
			t.Fatalf("%q has %d bytes", x.s, len(x.s))
		}
		decodes(t, summed(x.s), x.want)
		none(t, x.s)
	}
}

// P14.1: no bytes, one, lengths that no page has, and bytes that are all the same.
func TestDecodeSizes(t *testing.T) {
	none(t, "")
	for b := range 256 {
		one := string([]byte{byte(b)})
		none(t, one)
		for _, n := range append([]int{2, 15, 16, 17, 127, 129, 4096}, sizes...) {
			same := strings.Repeat(one, n)
			none(t, same)
			if n >= 16 {
				none(t, summed(same))
			}
		}
	}
	for n := range 2100 {
		if slices.Contains(sizes, n) || n < 34 {
			none(t, strings.Repeat("\x00", n))
			continue
		}
		// All is right but for the size: of a meta, a leaf without items, an inner page of one kid, and two chain pages.
		zeros := strings.Repeat("\x00", n)
		none(t, sealed(1, 0, 0, 1, 0, "withy"+four(n)+four(2)+four(0)+zeros[:n-34]+"W"))
		none(t, sealed(1, 0, 0, 1, 0, "withy"+four(128)+four(2)+four(0)+zeros[:n-34]+"W"))
		none(t, sealed(2, 0, 0, 0, 1, zeros[:n-18]+"\x02\x00"))
		none(t, sealed(3, 1, 1, 0, 1, "\x00\x00\x05\x00\x00\x00\x00"+zeros[:n-27]+"\x07\x00\x02\x00"))
		none(t, sealed(4, 0, 1, 0, 1, "a"+zeros[:n-17]))
		none(t, sealed(4, 0, n-16, 2, 1, long(n-16)))
	}
	for _, n := range sizes {
		// The same of lengths that pages have, so that it was the length alone.
		zeros := strings.Repeat("\x00", n)
		decodes(t, sealed(1, 0, 0, 1, 0, "withy"+four(n)+four(2)+four(0)+zeros[:n-34]+"W"), ofMeta(meta.Meta{P: n, Pages: 2, Root: 1}))
		decodes(t, sealed(2, 0, 0, 0, 1, zeros[:n-18]+"\x02\x00"), ofLeaf(leaf.Leaf{Self: 1}))
		decodes(t, sealed(3, 1, 1, 0, 1, "\x00\x00\x05\x00\x00\x00\x00"+zeros[:n-27]+"\x07\x00\x02\x00"), ofInner(inner.Inner{Self: 1, Level: 1, Kids: []int{5}}))
		decodes(t, sealed(4, 0, 1, 0, 1, "a"+zeros[:n-17]), ofChain(chain.Chain{Self: 1, Data: "a"}))
		decodes(t, sealed(4, 0, n-16, 2, 1, long(n-16)), ofChain(chain.Chain{Self: 1, Next: 2, Data: long(n - 16)}))
	}
}

// P14.1: pages with a byte more or less, at either end and within, and pages that are cut short, or have a page behind.
func TestDecodeMoreAndLess(t *testing.T) {
	for _, p := range sizes {
		for _, x := range some(p) {
			s := encoded(t, x, p)
			for b := range 256 {
				none(t, s+string([]byte{byte(b)}))
				none(t, string([]byte{byte(b)})+s)
			}
			for n := range p {
				none(t, s[:n])
				none(t, s[n+1:])
				none(t, s[:n]+s[n+1:])
				none(t, s[:n]+"\x00"+s[n:])
			}
			none(t, s+s)
			none(t, summed(s[:p-1]))
			none(t, summed(s+"\x00"))
			// With the sum put right half a chain page may be one, as a page of a smaller size; so may one with room behind.
			asModel(t, summed(s[:p/2]))
			asModel(t, summed(s+s))
			asModel(t, summed(s+strings.Repeat("\x00", p)))
		}
	}
}

// P14.1: pages in which one byte, or up to four in a row, are others, with the sum as it was, and with the one that they ought to have.
func TestDecodeOtherBytes(t *testing.T) {
	source := rand.New(rand.NewSource(141))
	found := map[int]int{}
	for _, p := range sizes {
		for _, x := range some(p) {
			s := encoded(t, x, p)
			step := max(1, p/512)
			for from := 0; from < p; from += step {
				for n := 1; n <= min(4, p-from); n++ {
					for range max(1, 512/p) {
						out := []byte(s)
						for i := range n {
							// The first and the last one are others, what is between may be.
							out[from+i] ^= byte(source.Intn(256))
							if i == 0 || i == n-1 {
								out[from+i] = s[from+i] + byte(1+source.Intn(255))
							}
						}
						if from+n <= 12 || from >= 16 || n == 1 {
							none(t, string(out))
						} else {
							asModel(t, string(out))
						}
						if again := summed(string(out)); again != s {
							found[asModel(t, again)]++
						}
					}
				}
			}
		}
	}
	for kind := range 5 {
		if found[kind] < 100 {
			t.Fatal(found)
		}
	}
}

// P14.1: pages sealed with each Kind there is, and with each that there is not.
func TestDecodeKinds(t *testing.T) {
	for _, p := range sizes {
		for _, x := range some(p) {
			s := encoded(t, x, p)
			for kind := range 256 {
				other := summed(string([]byte{byte(kind)}) + s[1:])
				if kind == x.Kind {
					decodes(t, other, x)
				} else {
					none(t, other)
				}
			}
		}
	}
}

// P14.1: pages of one Kind whose body is another one's, and all else such as that Kind has it.
func TestDecodeOtherBodies(t *testing.T) {
	for _, p := range sizes {
		for _, x := range some(p) {
			body := encoded(t, x, p)[16:]
			// To a chain page any bytes are data, and it is that alone.
			decodes(t, sealed(4, 0, p-16, 0, 7, body), ofChain(chain.Chain{Self: 7, Data: body}))
			decodes(t, sealed(4, 0, p-16, 8, 7, body), ofChain(chain.Chain{Self: 7, Next: 8, Data: body}))
			for kind := 1; kind <= 4; kind++ {
				for level := range 3 {
					for count := range 7 {
						for _, right := range []int{0, 1, 8} {
							for _, self := range []int{0, 7} {
								s := sealed(kind, level, count, right, self, body)
								if got := asModel(t, s); got != 0 && got != kind {
									t.Fatalf("%q is of Kind %d", s, got)
								}
							}
						}
					}
				}
			}
		}
	}
}

// filled answers a page of a Kind in which all parts have numbers, each another one.
func filled(kind int) page.Page {
	return page.Page{
		Kind: kind,
		L:    leaf.Leaf{Self: 11, Right: 12, High: "h", Items: pairs("a", "b")},
		N:    inner.Inner{Self: 13, Level: 14, Right: 15, High: "h", Kids: []int{16}},
		C:    chain.Chain{Self: 17, Next: 18, Data: "d"},
		M:    meta.Meta{P: 128, Pages: 20, Root: 19, Level: 21, Pairs: 22},
	}
}

// P14.1: the numbers of pages of each Kind, and of others, whatever else stands in them.
func TestNumbers(t *testing.T) {
	numbers := func(x page.Page, self, right int) {
		t.Helper()
		if a, b := page.Self(x), page.Right(x); a != self || b != right {
			t.Fatalf("Self and Right of %s: %d, %d; want %d, %d", shown(x), a, b, self, right)
		}
	}
	numbers(filled(1), 0, 19)
	numbers(filled(2), 11, 12)
	numbers(filled(3), 13, 15)
	numbers(filled(4), 17, 18)
	for kind := 1; kind <= 4; kind++ {
		numbers(page.Page{Kind: kind}, 0, 0)
	}
	for _, kind := range noKinds {
		numbers(filled(kind), 0, 0)
		numbers(page.Page{Kind: kind}, 0, 0)
	}
	for _, p := range sizes {
		for _, x := range some(p) {
			numbers(x, selfOf(x), rightOf(x))
			decoded, _ := page.Decode(encoded(t, x, p))
			numbers(decoded, selfOf(x), rightOf(x))
		}
	}
	// Numbers that may not be are told as they are.
	for _, n := range noPlaces {
		numbers(ofMeta(meta.Meta{Root: n}), 0, n)
		numbers(ofLeaf(leaf.Leaf{Self: n, Right: n - 1}), n, n-1)
		numbers(ofInner(inner.Inner{Self: n, Right: n - 1}), n, n-1)
		numbers(ofChain(chain.Chain{Self: n, Next: n - 1}), n, n-1)
	}
}

// sample answers texts of which some are pages at their own places, and what Decode tells of each.
func sample(t *testing.T) ([]string, []page.Page) {
	t.Helper()
	pages := []page.Page{
		ofMeta(meta.Meta{P: 128, Pages: 11, Root: 1, Level: 1, Pairs: 3}),
		ofInner(inner.Inner{Self: 1, Level: 1, Kids: []int{2, 3}, Seps: []string{"m"}}),
		ofLeaf(leaf.Leaf{Self: 2, Right: 3, High: "m", Items: []leaf.Item{{Key: "a", V: cell.Value{Over: true, Len: 40, Page: 4}}}}),
		ofLeaf(leaf.Leaf{Self: 3, Items: pairs("m", "x", "n", "y")}),
		ofChain(chain.Chain{Self: 4, Data: long(40)}),
		{},
		ofLeaf(leaf.Leaf{Self: 3, Items: pairs("m", "x", "n", "y")}),
		ofMeta(meta.Meta{P: 128, Pages: 11, Root: 1, Level: 1, Pairs: 3}),
		ofInner(inner.Inner{Self: 9, Level: 3, Kids: []int{8}}),
		ofChain(chain.Chain{Self: 8, Data: "x"}),
		ofLeaf(leaf.Leaf{Self: 10}),
	}
	var l []string
	for _, x := range pages {
		if x.Kind == 0 {
			l = append(l, strings.Repeat("x", 128))
		} else {
			l = append(l, encoded(t, x, 128))
		}
	}
	return l, pages
}

// P14.2: each place of a file, of which some hold pages of others, or none; and places that there are not.
func TestAt(t *testing.T) {
	l, pages := sample(t)
	for i, x := range pages {
		if i <= 4 || i == 10 {
			at(t, l, i, x, api.OK)
		} else {
			at(t, l, i, page.Page{}, api.ErrForm)
		}
	}
	for n := range len(l) + 1 {
		for _, i := range append([]int{n, n + 1, n + 2, 10, 11, 12, 128, 4095, 4096}, noPlaces...) {
			if i < 0 || i >= n {
				at(t, l[:n], i, page.Page{}, api.ErrArg)
			}
		}
	}
	for _, none := range [][]string{nil, {}, make([]string, 0, 20), l[:0]} {
		for _, i := range append([]int{0, 1, 2, 4096}, noPlaces...) {
			at(t, none, i, page.Page{}, api.ErrArg)
		}
	}
	// The last text, and one behind it, at places from the second one on.
	for n := 1; n < 40; n++ {
		x := ofLeaf(leaf.Leaf{Self: n})
		l := append(make([]string, n), encoded(t, x, 128))
		at(t, l, n, x, api.OK)
		at(t, l, n+1, page.Page{}, api.ErrArg)
		at(t, l, n-1, page.Page{}, api.ErrForm)
		at(t, l, 0, page.Page{}, api.ErrForm)
		at(t, l, -n, page.Page{}, api.ErrArg)
	}
}

// P14.2: a meta has the first place, and no other one; and no other page has that.
func TestAtTheFirstPlace(t *testing.T) {
	for _, p := range sizes {
		for _, x := range some(p) {
			s := encoded(t, x, p)
			for n := 1; n < 20; n++ {
				l := slices.Repeat([]string{s}, n)
				for i := range n {
					if i == selfOf(x) {
						at(t, l, i, x, api.OK)
					} else {
						at(t, l, i, page.Page{}, api.ErrForm)
					}
				}
			}
		}
	}
}

// P14.2: pages of unlike sizes in one list are pages, too.
func TestAtOfUnlikeSizes(t *testing.T) {
	l := []string{encoded(t, ofMeta(meta.Meta{P: 256, Pages: 9, Root: 1}), 256)}
	for i, p := range append(sizes, 512, 128) {
		l = append(l, encoded(t, ofLeaf(leaf.Leaf{Self: i + 1}), p))
		at(t, l, i+1, ofLeaf(leaf.Leaf{Self: i + 1}), api.OK)
	}
	surveys(t, l, 1, 2, 2, 2, 2, 2, 2)
}

// P14.2: Survey of no texts, of pages at their own places and at others, and of texts that are none.
func TestSurvey(t *testing.T) {
	surveys(t, nil)
	surveys(t, []string{})
	surveys(t, []string{""}, 0)
	l, _ := sample(t)
	surveys(t, l[:0])
	surveys(t, l, 1, 3, 2, 2, 4, 0, 0, 0, 0, 0, 2)
	surveys(t, l[1:], 0, 0, 0, 0, 0, 0, 0, 0, 4, 0)
	surveys(t, append([]string{l[0], l[1]}, l...), 1, 3, 0, 0, 0, 0, 0, 0, 0, 0, 0, 0, 0)
	swapped := slices.Clone(l)
	swapped[2], swapped[3] = swapped[3], swapped[2]
	surveys(t, swapped, 1, 3, 0, 0, 4, 0, 0, 0, 0, 0, 2)
	swapped[8], swapped[9] = swapped[9], swapped[8]
	surveys(t, swapped, 1, 3, 0, 0, 4, 0, 0, 0, 4, 3, 2)
	for i := range l {
		torn := slices.Clone(l)
		torn[i] = torn[i][:100] + "torn at the last bytes of it"
		want := []int{1, 3, 2, 2, 4, 0, 0, 0, 0, 0, 2}
		want[i] = 0
		surveys(t, torn, want...)
	}
	surveys(t, make([]string, 300), make([]int, 300)...)
}

// P14.2: Survey of more texts than a file has pages: a number above the greatest is no page's.
func TestSurveyOfMany(t *testing.T) {
	l := slices.Repeat([]string{encoded(t, ofMeta(meta.Meta{P: 128, Pages: 2, Root: 1}), 128)}, 4300)
	want := make([]int, 4300)
	for i := range l {
		if i > 0 && i < 4096 {
			l[i], want[i] = encoded(t, ofChain(chain.Chain{Self: i, Data: "x"}), 128), 4
		}
	}
	want[0] = 1
	for i := 4096; i < 4300; i += 2 {
		l[i] = sealed(4, 0, 1, 0, i, "x"+strings.Repeat("\x00", 111))
	}
	surveys(t, l, want...)
	at(t, l, 4095, ofChain(chain.Chain{Self: 4095, Data: "x"}), api.OK)
	at(t, l, 4096, page.Page{}, api.ErrForm)
	at(t, l, 4097, page.Page{}, api.ErrForm)
}

// changes are what makes a page of the same Kind another one, in one thing alone.
func changes() []func(x *page.Page) {
	return []func(x *page.Page){
		func(x *page.Page) { x.L.Self++ },
		func(x *page.Page) { x.L.Right++ },
		func(x *page.Page) { x.L.High += "\x00" },
		func(x *page.Page) { x.L.High = "" },
		func(x *page.Page) { x.L.Items = nil },
		func(x *page.Page) { x.L.Items = x.L.Items[1:] },
		func(x *page.Page) { x.L.Items = append(x.L.Items, leaf.Item{}) },
		func(x *page.Page) { slices.Reverse(x.L.Items) },
		func(x *page.Page) { x.L.Items[0].Key = "" },
		func(x *page.Page) { x.L.Items[1].Key += "\x00" },
		func(x *page.Page) { x.L.Items[1].V.S += "\x00" },
		func(x *page.Page) { x.L.Items[1].V.Over = true },
		func(x *page.Page) { x.L.Items[1].V.Len++ },
		func(x *page.Page) { x.L.Items[1].V.Page++ },
		func(x *page.Page) { x.N.Self++ },
		func(x *page.Page) { x.N.Level++ },
		func(x *page.Page) { x.N.Right++ },
		func(x *page.Page) { x.N.High += "\x00" },
		func(x *page.Page) { x.N.High = "" },
		func(x *page.Page) { x.N.Kids = nil },
		func(x *page.Page) { x.N.Kids = x.N.Kids[:2] },
		func(x *page.Page) { x.N.Kids = append(x.N.Kids, 0) },
		func(x *page.Page) { x.N.Kids[0]++ },
		func(x *page.Page) { x.N.Kids[2]++ },
		func(x *page.Page) { slices.Reverse(x.N.Kids) },
		func(x *page.Page) { x.N.Seps = nil },
		func(x *page.Page) { x.N.Seps = x.N.Seps[:1] },
		func(x *page.Page) { x.N.Seps = append(x.N.Seps, "") },
		func(x *page.Page) { x.N.Seps[0] = "" },
		func(x *page.Page) { x.N.Seps[1] += "\x00" },
		func(x *page.Page) { slices.Reverse(x.N.Seps) },
		func(x *page.Page) { x.C.Self++ },
		func(x *page.Page) { x.C.Next++ },
		func(x *page.Page) { x.C.Data += "\x00" },
		func(x *page.Page) { x.C.Data = "" },
		func(x *page.Page) { x.M.P++ },
		func(x *page.Page) { x.M.Pages++ },
		func(x *page.Page) { x.M.Root++ },
		func(x *page.Page) { x.M.Level++ },
		func(x *page.Page) { x.M.Pairs++ },
		func(x *page.Page) { x.L = leaf.Leaf{} },
		func(x *page.Page) { x.N = inner.Inner{} },
		func(x *page.Page) { x.C = chain.Chain{} },
		func(x *page.Page) { x.M = meta.Meta{} },
	}
}

// P14.2: pages that are unlike in one thing alone, whatever their Kind, are not the same, and pages that are unlike in nothing are.
func TestSame(t *testing.T) {
	full := filled(9)
	full.L.Items = append(full.L.Items, pairs("b", "c")...)
	full.N.Kids, full.N.Seps = []int{16, 17, 18}, []string{"e", "f"}
	pages := []page.Page{full}
	for _, change := range changes() {
		x := copied(full)
		change(&x)
		pages = append(pages, x)
	}
	for _, kind := range append([]int{1, 2, 3, 4}, noKinds...) {
		x := copied(full)
		x.Kind = kind
		pages = append(pages, x)
	}
	for i, a := range pages {
		for j, b := range pages {
			if got := page.Same(a, b); got != (i == j) {
				t.Fatalf("Same(%s, %s) is %t", shown(a), shown(b), got)
			}
		}
		if !page.Same(a, copied(a)) || !page.Same(a, a) {
			t.Fatalf("%s is not the same as its copy", shown(a))
		}
	}
	for kind := 1; kind <= 4; kind++ {
		for _, change := range changes() {
			// Also what is not of its Kind is held against the other one's.
			a, b := copied(full), copied(full)
			change(&b)
			a.Kind, b.Kind = kind, kind
			if page.Same(a, b) || page.Same(b, a) || !page.Same(b, copied(b)) {
				t.Fatalf("Same(%s, %s)", shown(a), shown(b))
			}
		}
	}
}

// P14.2: zero pages, lists that are nil and empty ones, and pages as they are decoded.
func TestSameOfOthers(t *testing.T) {
	room := filled(2)
	zeros := []page.Page{
		{},
		{L: leaf.Leaf{Items: []leaf.Item{}}},
		{N: inner.Inner{Kids: []int{}}},
		{N: inner.Inner{Seps: []string{}}},
		{L: leaf.Leaf{Items: room.L.Items[:0]}, N: inner.Inner{Kids: room.N.Kids[:0], Seps: make([]string, 0, 9)}},
	}
	others := []page.Page{{Kind: 1}, {Kind: 2}, {Kind: 3}, {Kind: 4}, {Kind: -1}, {L: leaf.Leaf{Items: make([]leaf.Item, 1)}}, {N: inner.Inner{Kids: make([]int, 1)}}, {N: inner.Inner{Seps: make([]string, 1)}}}
	for _, a := range zeros {
		for _, b := range zeros {
			if !page.Same(a, b) {
				t.Fatalf("Same(%s, %s) is false", shown(a), shown(b))
			}
		}
		for _, b := range others {
			if page.Same(a, b) || page.Same(b, a) {
				t.Fatalf("Same(%s, %s) is true", shown(a), shown(b))
			}
		}
	}
	for _, p := range sizes {
		for i, x := range some(p) {
			a, _ := page.Decode(encoded(t, x, p))
			for j, y := range some(p) {
				b, _ := page.Decode(encoded(t, y, p))
				if page.Same(a, b) != (i == j) || page.Same(a, y) != (i == j) || page.Same(x, b) != (i == j) || page.Same(a, page.Page{}) {
					t.Fatalf("Same(%s, %s)", shown(a), shown(b))
				}
			}
		}
	}
}

// P14.3: no page is of two Kinds: pages changed by chance, with the sum that they ought to have, are of the one that the model finds, or of none.
func TestOneKind(t *testing.T) {
	source := rand.New(rand.NewSource(142))
	found := map[int]int{}
	for range 30000 {
		p := sizes[source.Intn(3)]
		s := changed(source, encoded(t, anyPage(source, p), p))
		kind := asModel(t, s)
		if kind != 0 && kind != int(s[0]) {
			t.Fatalf("%q is of Kind %d", s, kind)
		}
		found[kind]++
	}
	for kind := range 5 {
		if found[kind] < 2000 {
			t.Fatal(found)
		}
	}
}

// changed answers a page with some bytes changed, most where something stands, and the sum that it ought to have.
func changed(source *rand.Rand, s string) string {
	out := []byte(s)
	for range source.Intn(3) {
		i := []int{source.Intn(len(out)), source.Intn(12), 0, 16 + source.Intn(24), len(out) - 1 - source.Intn(8)}[source.Intn(5)]
		out[i] = []byte{byte(source.Intn(256)), byte(source.Intn(5)), out[i] + 1, out[i] - 1, 0}[source.Intn(5)]
	}
	return summed(string(out))
}

// P14.1: Decode of texts that are no pages at all, or look like some.
func TestDecodeOfAnyText(t *testing.T) {
	source := rand.New(rand.NewSource(143))
	for range 5000 {
		none(t, anyText(source, source.Intn(1100)))
		p := sizes[source.Intn(4)]
		asModel(t, sealed(source.Intn(6), source.Intn(3), source.Intn(4), source.Intn(3), source.Intn(4), anyText(source, p-16)))
		asModel(t, sealed(4, 0, p-16-source.Intn(2), source.Intn(3), source.Intn(4), anyText(source, p-16)))
	}
}

// P14.2, P14.3: a page that was moved is none at its new place, wherever that is.
func TestMoved(t *testing.T) {
	for _, x := range append(some(128), ofLeaf(leaf.Leaf{Self: 256}), ofInner(inner.Inner{Self: 258, Level: 1, Kids: []int{2}}), ofChain(chain.Chain{Self: 2048, Data: "x"})) {
		want := make([]int, 4100)
		want[selfOf(x)] = x.Kind
		if got := page.Survey(slices.Repeat([]string{encoded(t, x, 128)}, 4100)); !slices.Equal(got, want) {
			t.Fatalf("%s is a page at another place", shown(x))
		}
	}
	l, _ := sample(t)
	for _, i := range []int{0, 1, 2, 3, 4, 10} {
		for j := range l {
			moved := slices.Clone(l)
			moved[i], moved[j] = moved[j], moved[i]
			if j != i {
				at(t, moved, j, page.Page{}, api.ErrForm)
			}
		}
	}
}

// P14.1 to P14.3: files of chance, of pages at their own places, at others, and changed ones, held against the chapter's words.
func TestFilesOfChance(t *testing.T) {
	source := rand.New(rand.NewSource(144))
	found := map[int]int{}
	for range 400 {
		l := make([]string, source.Intn(40))
		for i := range l {
			p := sizes[source.Intn(4)]
			x := anyPage(source, p)
			switch source.Intn(8) {
			case 0:
				l[i] = changed(source, encoded(t, x, p))
			case 1:
				l[i] = anyText(source, source.Intn(300))
			case 2:
				l[i] = encoded(t, numbered(x, 1+source.Intn(40)), p)
			default:
				if i == 0 {
					x = ofMeta(meta.Meta{P: p, Pages: 1 + len(l), Root: len(l)})
				}
				l[i] = encoded(t, numbered(x, i), p)
			}
		}
		surveys(t, l, surveyOf(t, l)...)
		for i := -2; i < len(l)+2; i++ {
			want, wantErrno := atOf(t, l, i)
			at(t, l, i, want, wantErrno)
			found[want.Kind]++
		}
	}
	for kind := range 5 {
		if found[kind] < 200 {
			t.Fatal(found)
		}
	}
}

// texts answers all texts of a page.
func texts(x page.Page) []string {
	out := append([]string{x.L.High, x.N.High, x.C.Data}, x.N.Seps...)
	for _, item := range x.L.Items {
		out = append(out, item.Key, item.V.S)
	}
	return out
}

// R4: what is told is new memory, lists and texts, and spare room too.
func TestAnswersAreNew(t *testing.T) {
	for _, p := range sizes {
		for _, x := range some(p) {
			s := encoded(t, x, p)
			l := make([]string, selfOf(x)+1)
			l[selfOf(x)] = s
			a, _ := page.Decode(s)
			b, _ := page.At(l, selfOf(x))
			c, _ := page.At(l, selfOf(x))
			for i, one := range []page.Page{a, b, c} {
				apart(t, texts(one), []string{s})
				for _, two := range []page.Page{a, b, c}[:i] {
					apart(t, texts(one), texts(two))
				}
			}
			clear(a.L.Items[:cap(a.L.Items)])
			clear(a.N.Kids[:cap(a.N.Kids)])
			clear(a.N.Seps[:cap(a.N.Seps)])
			if !equal(b, x) || !equal(c, x) {
				t.Fatal("an answer changed with another one")
			}
			decodes(t, s, x)
			first, second := page.Survey(l), page.Survey(l)
			clear(first[:cap(first)])
			if second[selfOf(x)] != x.Kind {
				t.Fatal("an answer changed with another one")
			}
		}
	}
}

// apart looks whether no text of the one list shares memory with one of the other.
func apart(t *testing.T, one, two []string) {
	t.Helper()
	for _, a := range one {
		for _, b := range two {
			from, other := uintptr(unsafe.Pointer(unsafe.StringData(a))), uintptr(unsafe.Pointer(unsafe.StringData(b)))
			if from < other+uintptr(len(b)) && other < from+uintptr(len(a)) {
				t.Fatalf("%q and %q share memory", a, b)
			}
		}
	}
}

// R4: what was handed in stays as it was, the room behind a list too, and what is told doesn't change with it afterwards.
func TestArgumentsStay(t *testing.T) {
	for _, p := range sizes {
		for _, x := range some(p) {
			s := encoded(t, x, p)
			raw := []byte(s)
			bytes := unsafe.String(&raw[0], p)
			room := slices.Repeat([]string{bytes}, selfOf(x)+3)
			l := room[:selfOf(x)+1]
			a, _ := page.Decode(bytes)
			b, _ := page.At(l, selfOf(x))
			kinds := page.Survey(l)
			if string(raw) != s || !slices.Equal(room, slices.Repeat([]string{s}, len(room))) {
				t.Fatal("what was handed in is another thing now")
			}
			clear(raw)
			clear(room)
			if !equal(a, x) || !equal(b, x) || kinds[selfOf(x)] != x.Kind {
				t.Fatal("what was told changed with what was handed in")
			}
		}
	}
	for _, kind := range append([]int{1, 2, 3, 4}, noKinds...) {
		x, kept := filled(kind), filled(kind)
		x.L.Items = append(make([]leaf.Item, 0, 4), x.L.Items...)
		x.N.Kids = append(make([]int, 0, 4), x.N.Kids...)
		x.N.Seps = append(make([]string, 0, 4), x.N.Seps...)
		page.Self(x)
		page.Right(x)
		page.Same(x, kept)
		page.Same(kept, x)
		behind := append(pairs(), x.L.Items[1:4]...)
		if !equal(x, kept) || !slices.Equal(behind, make([]leaf.Item, 3)) || !slices.Equal(x.N.Kids[1:4], make([]int, 3)) || !slices.Equal(x.N.Seps[:4], make([]string, 4)) {
			t.Fatal("what was handed in is another thing now")
		}
	}
}

// R5: the same call tells the same again, whatever was called between.
func TestAnswersStay(t *testing.T) {
	source := rand.New(rand.NewSource(145))
	l, pages := sample(t)
	x, _ := page.At(l, 2)
	kinds := page.Survey(l)
	for range 500 {
		p := sizes[source.Intn(4)]
		other := anyPage(source, p)
		s := changed(source, encoded(t, other, p))
		page.Decode(s)
		page.At([]string{s, s}, source.Intn(3))
		page.Survey([]string{s, s, s})
		page.Self(other)
		page.Right(other)
		page.Same(other, x)
	}
	if !equal(x, pages[2]) || !slices.Equal(kinds, []int{1, 3, 2, 2, 4, 0, 0, 0, 0, 0, 2}) {
		t.Fatal("what was told is another thing now")
	}
	at(t, l, 2, pages[2], api.OK)
	surveys(t, l, kinds...)
}
