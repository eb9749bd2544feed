package chain_test

import (
	"math"
	"math/rand"
	"slices"
	"strings"
	"testing"
	"unsafe"

	"withy/api"
	"withy/chain"
)

// great are numbers that are far from all that may be.
var great = []int{math.MinInt, math.MinInt + 1, math.MinInt + 16, -1 << 32, -1<<32 + 1, -1<<32 + 4095, -65536, -4096, -4095, -128, -2, -1, 1 << 13, 1<<16 + 1, 1<<31 - 1, 1 << 31, 1<<32 - 1, 1 << 32, 1<<32 + 1, 1<<32 + 4095, 1 << 62, math.MaxInt - 1, math.MaxInt}

// noSizes are numbers of bytes that no page has.
var noSizes = append([]int{0, 1, 15, 16, 17, 64, 100, 127, 129, 192, 255, 257, 384, 511, 513, 768, 1023, 1025, 2048, 4096, 1<<32 + 128, 1<<32 + 1024}, great...)

// numbers are some around all that pages' numbers may be, and the great ones.
var numbers = append([]int{0, 1, 2, 3, 127, 128, 255, 256, 257, 511, 512, 4094, 4095, 4096, 4097, 4351, 8191}, great...)

// long answers n bytes, not all of them the same.
func long(n int) string { return strings.Repeat("value of many", n/13+1)[:n] }

// may looks whether May tells that c may be on pages of p bytes, and Encode its page, of which Decode tells what it was.
func may(t *testing.T, c chain.Chain, p int) string {
	t.Helper()
	if !mayBe(c, p) {
		t.Fatalf("of %d bytes the model has it that %s may not be", p, shown(c))
	}
	if !chain.May(c, p) {
		t.Fatalf("of %d bytes %s may not be", p, shown(c))
	}
	s, e := chain.Encode(c, p)
	if e != api.OK || s != pageOf(c, p) {
		t.Fatalf("Encode(%s, %d): %q, %d; want %q", shown(c), p, s, e, pageOf(c, p))
	}
	decodes(t, s, c)
	return s
}

// mayNot looks whether May tells that c may not be on pages of p bytes, and Encode that there is none.
func mayNot(t *testing.T, c chain.Chain, p int) {
	t.Helper()
	if mayBe(c, p) {
		t.Fatalf("of %d bytes the model has it that %s may be", p, shown(c))
	}
	if chain.May(c, p) {
		t.Fatalf("of %d bytes %s may be", p, shown(c))
	}
	want := api.ErrArg
	if slices.Contains(sizes, p) {
		want = api.ErrForm
	}
	if s, e := chain.Encode(c, p); s != "" || e != want {
		t.Fatalf("Encode(%s, %d): %q, %d; want %d", shown(c), p, s, e, want)
	}
}

// mayIf looks whether May tells what is said.
func mayIf(t *testing.T, said bool, c chain.Chain, p int) {
	t.Helper()
	if said {
		may(t, c, p)
	} else {
		mayNot(t, c, p)
	}
}

// decodes looks whether Decode tells a chain page.
func decodes(t *testing.T, s string, c chain.Chain) {
	t.Helper()
	if got, e := chain.Decode(s); got != c || e != api.OK {
		t.Fatalf("Decode(%q): %s, %d; want %s", s, shown(got), e, shown(c))
	}
}

// none looks whether Decode tells that s is no chain page's, and nothing beside it.
func none(t *testing.T, s string) {
	t.Helper()
	if c, e := chain.Decode(s); c != (chain.Chain{}) || e != api.ErrForm {
		t.Fatalf("Decode of %d bytes, %.80q: %s, %d; want ErrForm", len(s), s, shown(c), e)
	}
}

// asModel looks whether Decode tells what the model does, and answers whether s is a page.
func asModel(t *testing.T, s string) bool {
	t.Helper()
	got, e := chain.Decode(s)
	want, wantErrno := decodeOf(s)
	if e != wantErrno || got != want {
		t.Fatalf("Decode(%q): %s, %d; want %s, %d", s, shown(got), e, shown(want), wantErrno)
	}
	return e == api.OK
}

// parts looks whether Parts tells what the model does, and Pages how many these are.
func parts(t *testing.T, value string, p int) []string {
	t.Helper()
	got, want := chain.Parts(value, p), partsOf(value, p)
	if !slices.Equal(got, want) {
		t.Fatalf("Parts of %d bytes, %d: %q; want %q", len(value), p, got, want)
	}
	pages(t, len(value), p, len(want))
	return got
}

// pages looks whether Pages tells a number.
func pages(t *testing.T, n, p, want int) {
	t.Helper()
	if got := chain.Pages(n, p); got != want {
		t.Fatalf("Pages(%d, %d): %d; want %d", n, p, got, want)
	}
}

// The chapter's examples, and one of the whole.
func TestExamples(t *testing.T) {
	s, e := chain.Encode(chain.Chain{Self: 5, Data: "abc"}, 128)
	if e != api.OK || len(s) != 128 || s[0] != 4 || s[2] != 3 || s[16] != 'a' {
		t.Fatalf("%q, %d", s, e)
	}
	if c, e := chain.Decode(s); c != (chain.Chain{Self: 5, Data: "abc"}) || e != api.OK {
		t.Fatalf("%s, %d", shown(c), e)
	}
	if chain.Pages(113, 128) != 2 {
		t.Fatal(chain.Pages(113, 128))
	}
	if l := chain.Parts(long(113), 128); len(l) != 2 || len(l[0]) != 112 || len(l[1]) != 1 {
		t.Fatalf("%q", l)
	}
}

// P12.1: sizes that a page may have, and those that it may not.
func TestMaySizes(t *testing.T) {
	for _, p := range sizes {
		may(t, chain.Chain{Self: 1, Data: "a"}, p)
		may(t, chain.Chain{Self: 1, Next: 2, Data: long(p - 16)}, p)
	}
	for _, p := range noSizes {
		mayNot(t, chain.Chain{Self: 1, Data: "a"}, p)
		mayNot(t, chain.Chain{Self: 1, Data: long(112)}, p)
		mayNot(t, chain.Chain{Self: 1, Next: 2, Data: long(112)}, p)
		if 16 <= p && p <= 4096 {
			mayNot(t, chain.Chain{Self: 1, Next: 2, Data: long(p - 16)}, p)
		}
	}
	for p := -300; p < 2100; p++ {
		mayIf(t, slices.Contains(sizes, p), chain.Chain{Self: 1, Data: "a"}, p)
	}
}

// P12.1: numbers of the page and of the next one, each with each.
func TestMayNumbers(t *testing.T) {
	for _, p := range sizes {
		for _, self := range numbers {
			for _, next := range numbers {
				c := chain.Chain{Self: self, Next: next, Data: long(p - 16)}
				mayIf(t, 1 <= self && self <= 4095 && 0 <= next && next <= 4095 && next != self, c, p)
				c.Data = long(p - 17)
				mayIf(t, 1 <= self && self <= 4095 && next == 0, c, p)
			}
		}
		for n := 1; n <= 4095; n++ {
			mayNot(t, chain.Chain{Self: n, Next: n, Data: long(p - 16)}, p)
			may(t, chain.Chain{Self: n, Data: "a"}, p)
			may(t, chain.Chain{Self: 1 + n%4095, Next: n, Data: long(p - 16)}, p)
		}
	}
}

// P12.1: as many bytes as there are, with a next page and without.
func TestMayLengths(t *testing.T) {
	for _, p := range sizes {
		for n := range p + 20 {
			mayIf(t, 1 <= n && n <= p-16, chain.Chain{Self: 3, Data: long(n)}, p)
			mayIf(t, n == p-16, chain.Chain{Self: 3, Next: 4, Data: long(n)}, p)
			mayIf(t, n == p-16, chain.Chain{Self: 3, Next: 4095, Data: strings.Repeat("\x00", n)}, p)
		}
		for _, n := range []int{2 * p, 2*p - 16, 2*p - 32, 256 + p - 16, 1<<16 + 1, 1<<16 + p - 16, 1 << 20} {
			mayNot(t, chain.Chain{Self: 3, Data: long(n)}, p)
			mayNot(t, chain.Chain{Self: 3, Next: 4, Data: long(n)}, p)
		}
		for _, q := range sizes {
			mayIf(t, q <= p, chain.Chain{Self: 3, Data: long(q - 16)}, p)
			mayIf(t, q == p, chain.Chain{Self: 3, Next: 4, Data: long(q - 16)}, p)
		}
	}
	mayNot(t, chain.Chain{}, 128)
	mayNot(t, chain.Chain{Self: 1}, 128)
	mayNot(t, chain.Chain{Data: "a"}, 128)
}

// P12.1, R2: of several things that are wrong the page's size is told first.
func TestEncodeErrorsInOrder(t *testing.T) {
	wrong := []chain.Chain{{}, {Self: 1}, {Data: "a"}, {Self: -1, Data: "a"}, {Self: 4096, Data: "a"}, {Self: 1, Next: 1, Data: long(112)}, {Self: 1, Next: 4096, Data: long(112)}, {Self: 1, Next: -1, Data: long(112)},
		{Self: 1, Next: 2, Data: "a"}, {Self: 1, Next: 2}, {Self: 1, Data: long(1009)}, {Self: 1, Next: 2, Data: long(1009)}, {Self: 0, Next: 0, Data: long(2000)}}
	for _, c := range wrong {
		for _, p := range sizes {
			if s, e := chain.Encode(c, p); s != "" || e != api.ErrForm {
				t.Fatalf("Encode(%s, %d): %q, %d; want ErrForm", shown(c), p, s, e)
			}
		}
		for _, p := range noSizes {
			if s, e := chain.Encode(c, p); s != "" || e != api.ErrArg {
				t.Fatalf("Encode(%s, %d): %q, %d; want ErrArg", shown(c), p, s, e)
			}
		}
	}
}

// P12.1: the bytes of pages, place by place.
func TestEncodePlaces(t *testing.T) {
	for _, p := range sizes {
		s := may(t, chain.Chain{Self: 0x0203, Data: "\x01\xffxy\x00"}, p)
		want := "\x04\x00\x05\x00" + "\x00\x00\x00\x00" + "\x03\x02\x00\x00" + "\x00\x00\x00\x00" + "\x01\xffxy\x00" + strings.Repeat("\x00", p-21)
		if s != summed(want) {
			t.Fatalf("%q; want %q", s, summed(want))
		}
		data := long(p - 16)
		s = may(t, chain.Chain{Self: 4095, Next: 0x0405, Data: data}, p)
		want = "\x04\x00" + string([]byte{byte(p - 16), byte((p - 16) >> 8)}) + "\x05\x04\x00\x00" + "\xff\x0f\x00\x00" + "\x00\x00\x00\x00" + data
		if s != summed(want) {
			t.Fatalf("%q; want %q", s, summed(want))
		}
	}
	// The sum of the chapter's example, worked out once by other means.
	if s := may(t, chain.Chain{Self: 5, Data: "abc"}, 128); s[12:16] != "\xf8\x14\xdb\xb7" {
		t.Fatalf("%q", s[12:16])
	}
}

// P12.1: numbers of bytes that no page has, and pages that are cut short, or have bytes behind.
func TestDecodeSizes(t *testing.T) {
	none(t, "")
	for _, p := range sizes {
		for _, c := range []chain.Chain{{Self: 1, Data: "a"}, {Self: 1, Next: 2, Data: long(p - 16)}} {
			s := may(t, c, p)
			for i := range len(s) {
				none(t, s[:i])
				none(t, s[i+1:])
			}
			for _, i := range []int{1, 2, 64, 127, 128, 129, 256, 257, 512, 1024, 4096} {
				none(t, s+strings.Repeat("\x00", i))
				none(t, strings.Repeat("\x00", i)+s)
			}
			none(t, s+s)
		}
		none(t, strings.Repeat("\x00", p))
		none(t, strings.Repeat("\xff", p))
	}
	for n := range 2100 {
		none(t, strings.Repeat("\x00", n))
		if n > 16 && !slices.Contains(sizes, n) {
			// All is right but for the size.
			none(t, sealed(n, 4, 0, 1, 0, 1, "a"))
			none(t, sealed(n, 4, 0, n-16, 2, 1, long(n-16)))
		}
	}
}

// P12.1, P12.3: pages in which any one byte is another one, with the sum as it was, and with the one that they ought to have.
func TestDecodeOtherBytes(t *testing.T) {
	decoded := 0
	for _, p := range sizes {
		step := p / 128 * p / 128
		for _, c := range []chain.Chain{{Self: 1, Data: "a"}, {Self: 0x0203, Data: long(p - 17)}, {Self: 0x0203, Next: 0x0405, Data: long(p - 16)}} {
			s := may(t, c, p)
			for at := range p {
				for change := 1; change < 256; change += step {
					out := []byte(s)
					out[at] ^= byte(change)
					none(t, string(out))
					if again := summed(string(out)); again != s && asModel(t, again) {
						decoded++
					}
				}
			}
		}
	}
	if decoded < 10000 {
		t.Fatalf("no more than %d pages decoded", decoded)
	}
}

// P12.1: pages sealed with another Kind, Level, or page at the right, or number of its own.
func TestDecodeHeads(t *testing.T) {
	for _, p := range sizes {
		for _, c := range []chain.Chain{{Self: 3, Data: "abc"}, {Self: 3, Data: long(p - 16)}, {Self: 3, Next: 4, Data: long(p - 16)}} {
			n := len(c.Data)
			for i := range 256 {
				for _, level := range []int{0, 1, i} {
					if s := sealed(p, i, level, n, c.Next, c.Self, c.Data); i == 4 && level == 0 {
						decodes(t, s, c)
					} else {
						none(t, s)
					}
				}
				if s := sealed(p, 4, i, n, c.Next, c.Self, c.Data); i != 0 {
					none(t, s)
				}
			}
			for _, i := range []int{0, 1, 2, 3, 4, 5, 255, 256, 4094, 4095, 4096, 4097, 1 << 16, 1<<16 + 1, 1<<31 + 1, 1<<32 - 1} {
				next, self, both := c, c, c
				next.Next, self.Self, both.Self, both.Next = i, i, i, i
				for _, x := range []chain.Chain{next, self, both} {
					if s := pageOf(x, p); mayBe(x, p) {
						decodes(t, s, x)
					} else {
						none(t, s)
					}
				}
			}
		}
	}
}

// P12.1: each Count there is, with and without a next page, and bytes behind as many as it tells.
func TestDecodeCounts(t *testing.T) {
	for _, p := range sizes {
		zeros := strings.Repeat("\x00", p-16)
		for count := range 65536 {
			if p > 128 && count > 1200 && count < 65500 && count%61 != 0 {
				continue
			}
			if s := sealed(p, 4, 0, count, 0, 1, ""); 1 <= count && count <= p-16 {
				decodes(t, s, chain.Chain{Self: 1, Data: zeros[:count]})
			} else {
				none(t, s)
			}
			if s := sealed(p, 4, 0, count, 2, 1, long(p-16)); count == p-16 {
				decodes(t, s, chain.Chain{Self: 1, Next: 2, Data: long(p - 16)})
			} else {
				none(t, s)
			}
			if count != p-16 {
				none(t, sealed(p, 4, 0, count, 2, 1, ""))
				none(t, sealed(p, 4, 0, count, 0, 1, long(p-16)))
			}
		}
	}
}

// P12.1: behind as many bytes as Count tells all are 0.
func TestDecodeBehind(t *testing.T) {
	for _, p := range sizes {
		for count := range p - 16 {
			for _, at := range []int{count, count + 1, (count + p - 16) / 2, p - 18, p - 17} {
				if at < count {
					continue
				}
				for _, other := range []byte{1, 128, 255} {
					body := []byte(long(count) + strings.Repeat("\x00", p-16-count))
					if s := sealed(p, 4, 0, count, 0, 1, string(body)); count > 0 {
						decodes(t, s, chain.Chain{Self: 1, Data: long(count)})
					}
					body[min(at, p-17)] = other
					none(t, sealed(p, 4, 0, count, 0, 1, string(body)))
				}
			}
		}
	}
}

// P12.2: values of each length up to some pages, and around whole pages.
func TestParts(t *testing.T) {
	for _, p := range sizes {
		for n := range 3*(p-16) + 2 {
			if p < 512 || n%(p-16) < 3 || n%(p-16) > p-19 {
				parts(t, long(n), p)
			}
		}
		for _, whole := range []int{4, 5, 36, 37} {
			for n := whole*(p-16) - 2; n <= whole*(p-16)+2; n++ {
				parts(t, long(n), p)
			}
		}
		parts(t, strings.Repeat("\x00", 4096), p)
		if l := chain.Parts("", p); len(l) != 0 {
			t.Fatalf("%q", l)
		}
	}
}

// P12.2: Pages of n below 0, 0, 1, around whole numbers of pages, and of very great n.
func TestPages(t *testing.T) {
	for _, p := range sizes {
		room := p - 16
		for n := -2000; n < 1; n++ {
			pages(t, n, p, 0)
		}
		want := 0
		for n := 1; n < 10000; n++ {
			if n%room == 1 {
				want++
			}
			pages(t, n, p, want)
		}
		for _, whole := range []int{1, 2, 37, 4095, 4096, 65536, 1 << 31, 1<<32 + 1, 1 << 52, math.MaxInt/room - 1, math.MaxInt / room} {
			pages(t, whole*room-1, p, whole)
			pages(t, whole*room, p, whole)
			pages(t, whole*room+1, p, whole+1)
		}
		for _, n := range great {
			switch {
			case n < 1:
				pages(t, n, p, 0)
			case n%room == 0:
				pages(t, n, p, n/room)
			default:
				pages(t, n, p, n/room+1)
			}
		}
	}
	pages(t, math.MaxInt, 128, 82351536043346213)
	pages(t, 4096, 128, 37)
	pages(t, 4096, 1024, 5)
}

// P12.3: parts, one behind the other, are the value; all but the last one are full, none is empty, and each may stand on a chain page.
func TestPartsAreTheValue(t *testing.T) {
	source := rand.New(rand.NewSource(121))
	for range 3000 {
		p := sizes[source.Intn(4)]
		value := anyText(source, source.Intn(4097))
		l := parts(t, value, p)
		if strings.Join(l, "") != value || len(l) != chain.Pages(len(value), p) {
			t.Fatalf("%d parts of %d bytes", len(l), len(value))
		}
		for i, part := range l {
			if part == "" || i < len(l)-1 && len(part) != p-16 {
				t.Fatalf("part %d of %d has %d bytes", i, len(l), len(part))
			}
			c := chain.Chain{Self: 1 + i, Data: part}
			if i < len(l)-1 {
				c.Next = 2 + i
			}
			may(t, c, p)
		}
	}
}

// P12.3: unlike chain pages have unlike pages, of all of a few.
func TestUnlikePages(t *testing.T) {
	seen := map[string]chain.Chain{}
	for _, self := range []int{1, 2, 256, 4095} {
		for _, data := range []string{"\x00", "\x00\x00", "a", "a\x00", "\x00a", "ab", long(111), long(111) + "\x00", long(112)} {
			for _, next := range []int{0, 1, 2, 256, 4095} {
				c := chain.Chain{Self: self, Next: next, Data: data}
				if !mayBe(c, 128) {
					continue
				}
				s := may(t, c, 128)
				if other, has := seen[s]; has {
					t.Fatalf("the page of %s is that of %s too", shown(c), shown(other))
				}
				seen[s] = c
			}
		}
	}
}

// P12.1, P12.3: chain pages of chance, some of which may not be, held against the chapter's words.
func TestEncodeOfChance(t *testing.T) {
	source := rand.New(rand.NewSource(122))
	found := map[api.Errno]int{}
	for range 20000 {
		p := sizes[source.Intn(4)]
		c := anyChain(source, p)
		switch source.Intn(12) {
		case 0:
			c.Self = numbers[source.Intn(len(numbers))]
		case 1:
			c.Next = numbers[source.Intn(len(numbers))]
		case 2:
			c.Data = anyText(source, source.Intn(2*p))
		case 3:
			c.Next = c.Self
		case 4:
			p = noSizes[source.Intn(len(noSizes))]
		}
		s, e := chain.Encode(c, p)
		if want, wantErrno := encodeOf(c, p); s != want || e != wantErrno || chain.May(c, p) != mayBe(c, p) {
			t.Fatalf("Encode(%s, %d): %q, %d; want %q, %d", shown(c), p, s, e, want, wantErrno)
		}
		if found[e]++; e == api.OK {
			decodes(t, s, c)
		}
	}
	if found[api.OK] < 10000 || found[api.ErrForm] < 2000 || found[api.ErrArg] < 1000 {
		t.Fatal(found)
	}
}

// P12.1, P12.3: pages changed by chance, with the sum that they ought to have, held against the chapter's words; what decodes is encoded again as it was.
func TestDecodeOfChance(t *testing.T) {
	source := rand.New(rand.NewSource(123))
	pages := 0
	const times = 20000
	for range times {
		p := sizes[source.Intn(3)]
		s := changed(source, pageOf(anyChain(source, p), p))
		if !asModel(t, s) {
			continue
		}
		pages++
		got, _ := chain.Decode(s)
		if again, e := chain.Encode(got, p); again != s || e != api.OK || !chain.May(got, p) {
			t.Fatalf("%q is encoded again as %q, %d", s, again, e)
		}
	}
	if pages < 5000 || pages > times-5000 {
		t.Fatalf("%d pages of %d", pages, times)
	}
}

// changed answers a page with some bytes changed, most in its head, and the sum that it ought to have.
func changed(source *rand.Rand, s string) string {
	out := []byte(s)
	for range source.Intn(3) {
		at := []int{source.Intn(len(out)), source.Intn(12), len(out) - 1 - source.Intn(3)}[source.Intn(3)]
		out[at] = []byte{byte(source.Intn(256)), out[at] + 1, out[at] - 1, 0}[source.Intn(4)]
	}
	return summed(string(out))
}

// P12.1: Decode of texts that are no pages at all, or look like some.
func TestDecodeOfAnyText(t *testing.T) {
	source := rand.New(rand.NewSource(124))
	for range 5000 {
		none(t, anyText(source, source.Intn(1100)))
		p := sizes[source.Intn(4)]
		body := anyText(source, p-16)
		asModel(t, sealed(p, 4, source.Intn(2), p-16-source.Intn(3), source.Intn(3), 1+source.Intn(3), body))
	}
}

// R4: what is told is new memory.
func TestAnswersAreNew(t *testing.T) {
	for _, p := range sizes {
		value := long(3*p + 5)
		c := chain.Chain{Self: 1, Next: 2, Data: strings.Clone(value[:p-16])}
		s := may(t, c, p)
		again, _ := chain.Encode(c, p)
		a, _ := chain.Decode(s)
		b, _ := chain.Decode(s)
		first, second := chain.Parts(value, p), chain.Parts(value, p)
		apart(t, append(append([]string{value, c.Data, s, again, a.Data, b.Data}, first...), second...))
		clear(first[:cap(first)])
		if !slices.Equal(second, partsOf(value, p)) {
			t.Fatal("an answer changed with another one")
		}
		// A value that has just one part is another text, too.
		one := long(p - 16)
		apart(t, append(chain.Parts(one, p), one))
	}
}

// apart looks whether no two texts share memory.
func apart(t *testing.T, texts []string) {
	t.Helper()
	for i, a := range texts {
		for _, b := range texts[:i] {
			one, two := uintptr(unsafe.Pointer(unsafe.StringData(a))), uintptr(unsafe.Pointer(unsafe.StringData(b)))
			if one < two+uintptr(len(b)) && two < one+uintptr(len(a)) {
				t.Fatalf("%q and %q share memory", a, b)
			}
		}
	}
}

// R4: what was handed in stays as it was, and what is told doesn't change with it afterwards.
func TestArgumentsStay(t *testing.T) {
	for _, p := range sizes {
		raw := []byte(long(2 * p))
		value := unsafe.String(&raw[0], len(raw))
		c := chain.Chain{Self: 1, Next: 2, Data: value[:p-16]}
		kept := chain.Chain{Self: 1, Next: 2, Data: strings.Clone(value[:p-16])}
		page, _ := chain.Encode(c, p)
		l := chain.Parts(value, p)
		sealedPage := []byte(page)
		got, _ := chain.Decode(unsafe.String(&sealedPage[0], len(sealedPage)))
		if string(raw) != long(2*p) || string(sealedPage) != page || c != kept {
			t.Fatal("what was handed in is another thing now")
		}
		clear(raw)
		clear(sealedPage)
		if page != pageOf(kept, p) || got != kept || !slices.Equal(l, partsOf(long(2*p), p)) {
			t.Fatal("what was told changed with what was handed in")
		}
	}
}

// R5: the same call tells the same again, whatever was called between.
func TestAnswersStay(t *testing.T) {
	source := rand.New(rand.NewSource(125))
	c := chain.Chain{Self: 3, Next: 4, Data: long(240)}
	s := may(t, c, 256)
	was := strings.Clone(s)
	l := chain.Parts(long(1000), 256)
	for range 500 {
		chain.Encode(anyChain(source, 256), 256)
		chain.Decode(changed(source, s))
		chain.Parts(anyText(source, source.Intn(2000)), 256)
		chain.Pages(source.Intn(2000), 256)
	}
	if s != was || !slices.Equal(l, partsOf(long(1000), 256)) {
		t.Fatal("what was told is another thing now")
	}
	may(t, c, 256)
	parts(t, long(1000), 256)
}
