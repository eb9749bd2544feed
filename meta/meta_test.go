package meta_test

import (
	"math"
	"math/rand"
	"slices"
	"strings"
	"testing"
	"unsafe"

	"withy/api"
	"withy/meta"
)

// great are numbers that are far from all that may be, some of them the same as such that may be in their lowest bytes.
var great = []int{math.MinInt, math.MinInt + 1, math.MinInt + 128, -1 << 32, -1<<32 + 1, -1<<32 + 4095, -1<<31 - 1, -1 << 31, -65536, -4096, -4095, -1024, -256, -128, -2, -1,
	1 << 32, 1<<32 + 1, 1<<32 + 2, 1<<32 + 128, 1<<32 + 255, 1<<32 + 4095, 1 << 62, math.MaxInt - 1, math.MaxInt}

// noSizes are numbers of bytes that no page has.
var noSizes = append([]int{0, 1, 15, 16, 17, 33, 34, 64, 100, 127, 129, 192, 255, 257, 384, 511, 513, 768, 1023, 1025, 2048, 4096, 1 << 16, 1<<31 - 1, 1 << 31}, great...)

// some are metas that may be, of each size, at the edges of what may be and within.
func some() []meta.Meta {
	var out []meta.Meta
	for _, p := range sizes {
		out = append(out,
			meta.Meta{P: p, Pages: 2, Root: 1},
			meta.Meta{P: p, Pages: 4096, Root: 4095, Level: 255, Pairs: math.MaxInt32},
			meta.Meta{P: p, Pages: 0x0304, Root: 0x0102, Level: 5, Pairs: 0x06070809})
	}
	return out
}

// may looks whether May tells that m may be, and Encode its page, of which Decode tells what it was.
func may(t *testing.T, m meta.Meta) string {
	t.Helper()
	if !mayBe(m) {
		t.Fatalf("the model has it that %s may not be", shown(m))
	}
	if !meta.May(m) {
		t.Fatalf("%s may not be", shown(m))
	}
	s, e := meta.Encode(m)
	if e != api.OK || s != pageOf(m) {
		t.Fatalf("Encode(%s): %q, %d; want %q", shown(m), s, e, pageOf(m))
	}
	decodes(t, s, m)
	return s
}

// mayNot looks whether May tells that m may not be, and Encode that there is none, and nothing beside it.
func mayNot(t *testing.T, m meta.Meta) {
	t.Helper()
	if mayBe(m) {
		t.Fatalf("the model has it that %s may be", shown(m))
	}
	if meta.May(m) {
		t.Fatalf("%s may be", shown(m))
	}
	if s, e := meta.Encode(m); s != "" || e != api.ErrForm {
		t.Fatalf("Encode(%s): %q, %d; want ErrForm", shown(m), s, e)
	}
}

// mayIf looks whether May tells what is said.
func mayIf(t *testing.T, said bool, m meta.Meta) {
	t.Helper()
	if said {
		may(t, m)
	} else {
		mayNot(t, m)
	}
}

// decodes looks whether Decode tells a meta.
func decodes(t *testing.T, s string, m meta.Meta) {
	t.Helper()
	if got, e := meta.Decode(s); got != m || e != api.OK {
		t.Fatalf("Decode(%q): %s, %d; want %s", s, shown(got), e, shown(m))
	}
}

// none looks whether Decode tells that s is no meta's page, and nothing beside it.
func none(t *testing.T, s string) {
	t.Helper()
	if m, e := meta.Decode(s); m != (meta.Meta{}) || e != api.ErrForm {
		t.Fatalf("Decode of %d bytes, %.80q: %s, %d; want ErrForm", len(s), s, shown(m), e)
	}
}

// decodesIf looks whether Decode tells a meta, if that is said, or else none.
func decodesIf(t *testing.T, said bool, s string, m meta.Meta) {
	t.Helper()
	if said {
		decodes(t, s, m)
	} else {
		none(t, s)
	}
}

// asModel looks whether Decode tells what the model does, and answers whether s is a page.
func asModel(t *testing.T, s string) bool {
	t.Helper()
	got, e := meta.Decode(s)
	want, wantErrno := decodeOf(s)
	if e != wantErrno || got != want {
		t.Fatalf("Decode(%q): %s, %d; want %s, %d", s, shown(got), e, shown(want), wantErrno)
	}
	return e == api.OK
}

// tears looks whether Tear tells what the model does.
func tears(t *testing.T, fresh, old string, at int) string {
	t.Helper()
	got, want := meta.Tear(fresh, old, at), tearOf(fresh, old, at)
	if got != want {
		t.Fatalf("Tear(%q, %q, %d): %q; want %q", fresh, old, at, got, want)
	}
	return got
}

// The chapter's example.
func TestExample(t *testing.T) {
	m := meta.Meta{P: 128, Pages: 2, Root: 1}
	s, e := meta.Encode(m)
	if e != api.OK || len(s) != 128 || s[0] != 1 || s[4] != 1 || s[16] != 'w' || s[21] != 128 || s[127] != 'W' {
		t.Fatalf("%q, %d", s, e)
	}
	if got, e := meta.Decode(s); got != m || e != api.OK {
		t.Fatalf("%s, %d", shown(got), e)
	}
}

// P13.1: sizes that a page may have, and those that it may not, with all else right.
func TestMaySizes(t *testing.T) {
	for _, m := range some() {
		may(t, m)
		for _, m.P = range noSizes {
			mayNot(t, m)
		}
		for m.P = -300; m.P < 2100; m.P++ {
			mayIf(t, m.P == 128 || m.P == 256 || m.P == 512 || m.P == 1024, m)
		}
	}
}

// P13.1: how many pages there are, with all else right.
func TestMayPages(t *testing.T) {
	for _, p := range sizes {
		for pages := -300; pages < 4400; pages++ {
			mayIf(t, 2 <= pages && pages <= 4096, meta.Meta{P: p, Pages: pages, Root: 1})
		}
		for _, pages := range append([]int{8191, 8192, 1 << 16, 1<<16 + 2, 1<<31 - 1, 1 << 31}, great...) {
			mayNot(t, meta.Meta{P: p, Pages: pages, Root: 1})
		}
	}
}

// P13.1: the root, which is below how many pages there are, with all else right.
func TestMayRoots(t *testing.T) {
	for _, p := range sizes {
		for _, pages := range []int{2, 3, 128, 256, 257, 4095, 4096} {
			for root := -2; root < 4400; root++ {
				mayIf(t, 1 <= root && root < pages, meta.Meta{P: p, Pages: pages, Root: root, Level: 1, Pairs: 9})
			}
			for _, root := range append([]int{8191, 1 << 16, 1<<16 + 1, 1<<31 - 1, 1 << 31}, great...) {
				mayNot(t, meta.Meta{P: p, Pages: pages, Root: root, Level: 1, Pairs: 9})
			}
		}
	}
}

// P13.1: a root that is not below how many pages there are, when these are too few, or too many.
func TestMayRootsOfNoPages(t *testing.T) {
	for _, pages := range append([]int{0, 1, 4097, 4098, 8192}, great...) {
		for _, root := range append([]int{0, 1, 2, 4095, 4096, 4097, pages - 1, pages, pages + 1}, great...) {
			mayNot(t, meta.Meta{P: 128, Pages: pages, Root: root})
		}
	}
}

// P13.1: the root's level, with all else right.
func TestMayLevels(t *testing.T) {
	for _, m := range some() {
		for m.Level = -300; m.Level < 700; m.Level++ {
			mayIf(t, 0 <= m.Level && m.Level <= 255, m)
		}
		for _, m.Level = range append([]int{1 << 16, 1<<16 + 1, 1<<31 - 1, 1 << 31}, great...) {
			mayIf(t, 0 <= m.Level && m.Level <= 255, m)
		}
	}
}

// P13.1: how many pairs there are, with all else right.
func TestMayPairs(t *testing.T) {
	for _, m := range some() {
		for _, m.Pairs = range []int{0, 1, 2, 255, 256, 4095, 4096, 4097, 65535, 65536, 1<<24 - 1, 1 << 24, 1<<31 - 2, 1<<31 - 1} {
			may(t, m)
		}
		for _, m.Pairs = range append([]int{1 << 31, 1<<31 + 1, 1<<32 - 1}, great...) {
			mayNot(t, m)
		}
	}
}

// P13.1: several things that are wrong, each with each.
func TestMaySeveral(t *testing.T) {
	for _, p := range []int{128, 0, 100, -128, 1<<32 + 128} {
		for _, pages := range []int{7, 0, 1, 4097, math.MinInt, math.MaxInt} {
			for _, root := range []int{6, 0, -1, 7, 4096, math.MinInt, math.MaxInt} {
				for _, level := range []int{0, -1, 256, math.MinInt, math.MaxInt} {
					for _, pairs := range []int{0, -1, 1 << 31, math.MinInt, math.MaxInt} {
						mayIf(t, p == 128 && pages == 7 && root == 6 && level == 0 && pairs == 0, meta.Meta{P: p, Pages: pages, Root: root, Level: level, Pairs: pairs})
					}
				}
			}
		}
	}
	mayNot(t, meta.Meta{})
}

// P13.1: the bytes of pages, place by place.
func TestEncodePlaces(t *testing.T) {
	for _, p := range sizes {
		s := may(t, meta.Meta{P: p, Pages: 0x0304, Root: 0x0102, Level: 5, Pairs: 0x06070809})
		want := "\x01\x05\x00\x00" + "\x02\x01\x00\x00" + "\x00\x00\x00\x00" + "\x00\x00\x00\x00" +
			"withy" + string([]byte{byte(p), byte(p >> 8), 0, 0}) + "\x04\x03\x00\x00" + "\x09\x08\x07\x06" + strings.Repeat("\x00", p-34) + "W"
		if s != summed(want) {
			t.Fatalf("%q; want %q", s, summed(want))
		}
		s = may(t, meta.Meta{P: p, Pages: 4096, Root: 4095, Level: 255, Pairs: 1<<31 - 1})
		want = "\x01\xff\x00\x00" + "\xff\x0f\x00\x00" + "\x00\x00\x00\x00" + "\x00\x00\x00\x00" +
			"withy" + string([]byte{byte(p), byte(p >> 8), 0, 0}) + "\x00\x10\x00\x00" + "\xff\xff\xff\x7f" + strings.Repeat("\x00", p-34) + "W"
		if s != summed(want) {
			t.Fatalf("%q; want %q", s, summed(want))
		}
	}
}

// P13.1: numbers of bytes that no page has, no bytes, and pages that are cut short, or have bytes behind.
func TestDecodeSizes(t *testing.T) {
	none(t, "")
	for _, m := range some() {
		s := may(t, m)
		for n := range m.P {
			none(t, s[:n])
			none(t, s[n+1:])
			none(t, s[:n]+s[n+1:])
			if n >= 16 {
				none(t, summed(s[:n]))
			}
		}
		for _, more := range []string{"\x00", "W", s[m.P-1:], s, strings.Repeat("\x00", m.P), strings.Repeat("\x00", m.P-1) + "W", strings.Repeat("\x00", 2048)} {
			none(t, s+more)
			none(t, summed(s+more))
			none(t, more+s)
		}
		for n := 34; n < 1200; n++ {
			// All else is right for that many bytes, the number in the body too, if it is not the one of the page.
			if !slices.Contains(sizes, n) {
				none(t, pageOn(m, n))
				m.P = n
				none(t, pageOn(m, n))
			}
		}
	}
}

// P13.1, P13.3: pages in which any one byte is another one, with the sum as it was, and with the one that they ought to have.
func TestDecodeOtherBytes(t *testing.T) {
	decoded := 0
	for _, m := range some() {
		step := m.P / 128 * m.P / 128
		s := may(t, m)
		for at := range m.P {
			for change := 1; change < 256; change += step {
				out := []byte(s)
				out[at] ^= byte(change)
				none(t, string(out))
				again := summed(string(out))
				if 12 <= at && at < 16 {
					if again != s {
						t.Fatal("the sum is not that of all bytes but its own")
					}
					continue
				}
				if asModel(t, again) {
					decoded++
				}
			}
		}
	}
	if decoded < 3000 {
		t.Fatalf("no more than %d pages decoded", decoded)
	}
}

// P13.1: pages sealed with another kind, a count, or a number of their own.
func TestDecodeHeads(t *testing.T) {
	for _, m := range some() {
		body := bodyOf(m, m.P)
		for i := range 256 {
			decodesIf(t, i == 1, sealed(i, m.Level, 0, m.Root, 0, body), m)
		}
		for i := range 65536 {
			if i < 4100 || i > 65500 || i%251 == 0 {
				decodesIf(t, i == 0, sealed(1, m.Level, i, m.Root, 0, body), m)
			}
		}
		for i := range 4100 {
			decodesIf(t, i == 0, sealed(1, m.Level, 0, m.Root, i, body), m)
		}
		for _, i := range []int{m.Root, m.Pages, 1 << 16, 1 << 24, 1 << 31, 1<<32 - 1} {
			none(t, sealed(1, m.Level, 0, m.Root, i, body))
		}
	}
}

// P13.1: the root is the page at the right, the level the head's: each of them that may be is told, none else.
func TestDecodeRootsAndLevels(t *testing.T) {
	for _, m := range some() {
		body := bodyOf(m, m.P)
		for root := range 4400 {
			want := m
			want.Root = root
			decodesIf(t, 1 <= root && root < m.Pages, sealed(1, m.Level, 0, root, 0, body), want)
		}
		for _, root := range []int{m.Pages, m.Pages + 1, 1 << 16, 1<<16 + 1, 1<<24 + 1, 1<<31 - 1, 1 << 31, 1<<31 + 1, 1<<32 - 1} {
			none(t, sealed(1, m.Level, 0, root, 0, body))
		}
		for level := range 256 {
			want := m
			want.Level = level
			decodes(t, sealed(1, level, 0, m.Root, 0, body), want)
		}
	}
}

// P13.1: bodies whose first five bytes are others.
func TestDecodeMarks(t *testing.T) {
	for _, m := range some() {
		rest := bodyOf(m, m.P)[5:]
		for _, mark := range []string{"\x00\x00\x00\x00\x00", "Withy", "WITHY", "yhtiw", "withW", "with\x00", "\x00with", "ithyw", "willo", "wwwww", "W\x00\x00\x00\x00"} {
			none(t, sealed(1, m.Level, 0, m.Root, 0, mark+rest))
		}
		decodes(t, sealed(1, m.Level, 0, m.Root, 0, "withy"+rest), m)
		// The numbers ahead of their places, or behind them.
		none(t, sealed(1, m.Level, 0, m.Root, 0, rest+"withy"))
		none(t, sealed(1, m.Level, 0, m.Root, 0, "with"+rest[:len(rest)-1]+"\x00W"))
		none(t, sealed(1, m.Level, 0, m.Root, 0, "withy\x00"+rest[:len(rest)-2]+"W"))
	}
}

// P13.1: pages that tell another page's size than their own, one that may be or one that may not.
func TestDecodeOtherSizes(t *testing.T) {
	for _, m := range some() {
		p := m.P
		for n := range 2100 {
			m.P = n
			decodesIf(t, n == p, pageOn(m, p), m)
		}
		for _, m.P = range []int{p << 8, p << 16, p + 1<<16, p + 1<<24, p + 1<<31, 1 << 31, 1<<32 - 1, 1<<32 - p} {
			none(t, pageOn(m, p))
		}
	}
}

// P13.1: pages that tell as many pages, or pairs, as may not be.
func TestDecodeNumbers(t *testing.T) {
	for _, p := range sizes {
		for n := range 4400 {
			m := meta.Meta{P: p, Pages: n, Root: 1, Level: 2, Pairs: 3}
			decodesIf(t, 2 <= n && n <= 4096, pageOf(m), m)
			m.Root = 77
			decodesIf(t, 78 <= n && n <= 4096, pageOf(m), m)
		}
		for _, n := range []int{1 << 13, 1 << 16, 1<<16 + 2, 1<<24 + 2, 1<<31 - 1, 1 << 31, 1<<31 + 2, 1<<32 - 1} {
			none(t, pageOf(meta.Meta{P: p, Pages: n, Root: 1}))
		}
		for _, n := range []int{0, 1, 255, 256, 1<<16 - 1, 1 << 16, 1<<24 + 1, 1<<30 + 1, 1<<31 - 2, 1<<31 - 1, 1 << 31, 1<<31 + 1, 1<<32 - 2, 1<<32 - 1} {
			m := meta.Meta{P: p, Pages: 9, Root: 3, Level: 2, Pairs: n}
			decodesIf(t, n < 1<<31, pageOf(m), m)
		}
	}
}

// P13.1: all bytes between the numbers and the last one are 0, and the last one is W.
func TestDecodeBehind(t *testing.T) {
	for _, m := range some() {
		s := may(t, m)
		for at := 33; at < m.P; at++ {
			for _, other := range []byte{0, 1, 'W', 'w', 128, 255} {
				out := []byte(s)
				out[at] = other
				decodesIf(t, at < m.P-1 && other == 0 || at == m.P-1 && other == 'W', summed(string(out)), m)
			}
		}
		for other := range 256 {
			decodesIf(t, other == 'W', summed(s[:m.P-1]+string([]byte{byte(other)})), m)
		}
		none(t, summed(s[:m.P-2]+"W\x00"))
		none(t, summed(s[:33]+strings.Repeat("W", m.P-33)))
	}
}

// P13.1: other bytes of which the sum is the same, so that they are to be told by themselves.
func TestDecodeSameSum(t *testing.T) {
	for _, m := range some() {
		s := may(t, m)
		for at := 16; at <= m.P-5; at++ {
			for _, first := range []byte{1, 0x57, 128, 255} {
				out := []byte(s)
				for i, other := range []byte(unsummed(first)) {
					out[at+i] ^= other
				}
				if summed(string(out)) != string(out) {
					t.Fatalf("at %d the sum is another one", at)
				}
				if asModel(t, string(out)) && at > 28 {
					t.Fatalf("at %d something else is a page, too", at)
				}
			}
		}
	}
}

// P13.2: texts of the same length, at each place, below 0, and above the length.
func TestTear(t *testing.T) {
	for n := range 40 {
		fresh, old := strings.Repeat("fresh", 8)[:n], strings.Repeat("older ones", 4)[:n]
		for at := -3; at < n+4; at++ {
			got := tears(t, fresh, old, at)
			if len(got) != n {
				t.Fatalf("of %d bytes %d", n, len(got))
			}
		}
		for _, at := range append([]int{1 << 16, 1<<31 - 1, 1 << 31}, great...) {
			want := old
			if at > 0 {
				want = fresh
			}
			if got := tears(t, fresh, old, at); got != want {
				t.Fatalf("Tear(%q, %q, %d): %q; want %q", fresh, old, at, got, want)
			}
		}
	}
	for _, x := range []struct {
		at   int
		want string
	}{{-1, "efgh"}, {0, "efgh"}, {1, "afgh"}, {2, "abgh"}, {3, "abch"}, {4, "abcd"}, {5, "abcd"}, {math.MaxInt, "abcd"}, {math.MinInt, "efgh"}} {
		if got := tears(t, "abcd", "efgh", x.at); got != x.want {
			t.Fatalf("%d: %q; want %q", x.at, got, x.want)
		}
	}
}

// P13.2: of texts of unlike lengths nothing is told, nor of empty ones.
func TestTearUnlike(t *testing.T) {
	for a := range 20 {
		for b := range 20 {
			for _, at := range []int{-1, 0, 1, a - 1, a, a + 1, b - 1, b, b + 1, 20, math.MinInt, math.MaxInt} {
				got := tears(t, strings.Repeat("a", a), strings.Repeat("b", b), at)
				if (a != b || a == 0) != (got == "") {
					t.Fatalf("%d, %d, %d: %q", a, b, at, got)
				}
			}
		}
	}
	for _, p := range sizes {
		s := may(t, meta.Meta{P: p, Pages: 2, Root: 1})
		for _, old := range []string{"", s[1:], s + "\x00", s + s} {
			tears(t, s, old, 5)
			tears(t, old, s, 5)
		}
	}
}

// P13.2: texts of chance, of any bytes.
func TestTearOfChance(t *testing.T) {
	source := rand.New(rand.NewSource(131))
	for range 5000 {
		n := source.Intn(300)
		fresh, old := anyText(source, n), anyText(source, n+source.Intn(10)/9)
		tears(t, fresh, old, source.Intn(n+21)-10)
	}
}

// P13.3: a meta's page that is torn over bytes 0 is none, unless it is whole.
func TestTornOverZeros(t *testing.T) {
	source := rand.New(rand.NewSource(132))
	l := some()
	for range 300 {
		l = append(l, anyMeta(source))
	}
	for _, m := range l {
		s := may(t, m)
		zeros := strings.Repeat("\x00", m.P)
		for at := -2; at < m.P+3; at++ {
			torn := meta.Tear(s, zeros, at)
			decodesIf(t, at >= m.P, torn, m)
			// What was not written is not W, so that not even the right sum makes it one's.
			decodesIf(t, at >= m.P, summed(torn), m)
		}
		none(t, tears(t, zeros, s, 1))
		none(t, tears(t, s, zeros, math.MinInt))
		decodes(t, tears(t, s, zeros, math.MaxInt), m)
	}
}

// P13.3: unlike metas have unlike pages, and each page is one's, or none.
func TestUnlikePages(t *testing.T) {
	seen := map[string]meta.Meta{}
	for _, p := range sizes {
		for _, pages := range []int{2, 3, 128, 256, 258, 512, 4095, 4096} {
			for _, root := range []int{1, 2, 127, 255, 256, 257, 4094, 4095} {
				for _, level := range []int{0, 1, 2, 128, 255} {
					for _, pairs := range []int{0, 1, 2, 128, 256, 1 << 16, 1<<31 - 1} {
						m := meta.Meta{P: p, Pages: pages, Root: root, Level: level, Pairs: pairs}
						if !mayBe(m) {
							continue
						}
						s := may(t, m)
						if other, has := seen[s]; has {
							t.Fatalf("the page of %s is that of %s too", shown(m), shown(other))
						}
						seen[s] = m
					}
				}
			}
		}
	}
}

// P13.1, P13.3: metas of chance, some of which may not be, held against the chapter's words.
func TestEncodeOfChance(t *testing.T) {
	source := rand.New(rand.NewSource(133))
	found := map[api.Errno]int{}
	for range 20000 {
		m := anyMeta(source)
		edges := slices.Concat(noSizes, []int{2, 3, 4094, 4095, 4097, m.Pages - 1, m.Pages, m.Pages + 1})
		n := edges[source.Intn(len(edges))]
		switch source.Intn(8) {
		case 0:
			m.P = n
		case 1:
			m.Pages = n
		case 2:
			m.Root = n
		case 3:
			m.Level = n
		case 4:
			m.Pairs = n
		}
		s, e := meta.Encode(m)
		if want, wantErrno := encodeOf(m); s != want || e != wantErrno || meta.May(m) != mayBe(m) {
			t.Fatalf("Encode(%s): %q, %d; want %q, %d", shown(m), s, e, want, wantErrno)
		}
		if found[e]++; e == api.OK {
			decodes(t, s, m)
		}
	}
	if found[api.OK] < 8000 || found[api.ErrForm] < 6000 {
		t.Fatal(found)
	}
}

// P13.1, P13.3: pages changed by chance, with the sum that they ought to have, held against the chapter's words; what decodes is encoded again as it was.
func TestDecodeOfChance(t *testing.T) {
	source := rand.New(rand.NewSource(134))
	pages := 0
	const times = 20000
	for range times {
		s := changed(source, pageOf(anyMeta(source)))
		if !asModel(t, s) {
			continue
		}
		pages++
		got, _ := meta.Decode(s)
		if again, e := meta.Encode(got); again != s || e != api.OK || !meta.May(got) {
			t.Fatalf("%q is encoded again as %q, %d", s, again, e)
		}
	}
	if pages < 4000 || pages > times-4000 {
		t.Fatalf("%d pages of %d", pages, times)
	}
}

// changed answers a page with some bytes changed, most of them where something stands, and the sum that it ought to have.
func changed(source *rand.Rand, s string) string {
	out := []byte(s)
	for range source.Intn(3) {
		at := []int{source.Intn(len(out)), source.Intn(12), 16 + source.Intn(18), 29 + source.Intn(3), len(out) - 1}[source.Intn(5)]
		out[at] = []byte{byte(source.Intn(256)), out[at] + 1, out[at] - 1, 0}[source.Intn(4)]
	}
	return summed(string(out))
}

// P13.1: Decode of texts that are no pages at all, or look like some.
func TestDecodeOfAnyText(t *testing.T) {
	source := rand.New(rand.NewSource(135))
	for range 5000 {
		none(t, anyText(source, source.Intn(1100)))
		p := sizes[source.Intn(4)]
		none(t, sealed(1, 0, 0, 1, 0, anyText(source, p-16)))
		none(t, sealed(1, 0, 0, 1, 0, "withy"+four(p)+four(2)+four(0)+anyText(source, p-34)+"\x01"))
		asModel(t, sealed(1+source.Intn(2), source.Intn(3), source.Intn(2), source.Intn(3), source.Intn(2), "withy"+four(p)+four(source.Intn(5))+four(0)+strings.Repeat("\x00", p-34)+"W"))
	}
}

// R4: what is told is new memory.
func TestAnswersAreNew(t *testing.T) {
	for _, m := range some() {
		s := may(t, m)
		again, _ := meta.Encode(m)
		old := strings.Repeat("x", m.P)
		texts := []string{s, again, old}
		for _, at := range []int{math.MinInt, -1, 0, 1, m.P / 2, m.P - 1, m.P, m.P + 1, math.MaxInt} {
			texts = append(texts, meta.Tear(s, old, at))
			// Torn over itself it is another text, too.
			texts = append(texts, meta.Tear(s, s, at))
		}
		apart(t, append(texts, meta.Tear(s[:1], old[:1], 0), meta.Tear(s[:1], old[:1], 1)))
	}
}

// apart looks whether no two texts share memory.
func apart(t *testing.T, texts []string) {
	t.Helper()
	for i, a := range texts {
		for _, b := range texts[:i] {
			one, two := uintptr(unsafe.Pointer(unsafe.StringData(a))), uintptr(unsafe.Pointer(unsafe.StringData(b)))
			if one < two+uintptr(len(b)) && two < one+uintptr(len(a)) {
				t.Fatalf("%q and %q share memory", a, b)
			}
		}
	}
}

// R4: what was handed in stays as it was, and what is told doesn't change with it afterwards.
func TestArgumentsStay(t *testing.T) {
	for _, m := range some() {
		page := may(t, m)
		fresh, old := []byte(page), []byte(strings.Repeat("x", m.P))
		one, two := unsafe.String(&fresh[0], m.P), unsafe.String(&old[0], m.P)
		got, _ := meta.Decode(one)
		var torn, want []string
		for _, at := range []int{0, 20, m.P} {
			torn = append(torn, meta.Tear(one, two, at))
			want = append(want, tearOf(page, strings.Repeat("x", m.P), at))
		}
		if string(fresh) != page || string(old) != strings.Repeat("x", m.P) {
			t.Fatal("what was handed in is another thing now")
		}
		clear(fresh)
		clear(old)
		if got != m || !slices.Equal(torn, want) {
			t.Fatal("what was told changed with what was handed in")
		}
	}
}

// R5: the same call tells the same again, whatever was called between.
func TestAnswersStay(t *testing.T) {
	source := rand.New(rand.NewSource(136))
	m := meta.Meta{P: 256, Pages: 9, Root: 8, Level: 1, Pairs: 77}
	s := may(t, m)
	torn := tears(t, s, strings.Repeat("x", 256), 33)
	was, tornWas := strings.Clone(s), strings.Clone(torn)
	for range 500 {
		other := anyMeta(source)
		page, _ := meta.Encode(other)
		meta.Decode(changed(source, page))
		meta.Tear(page, strings.Repeat("y", len(page)), source.Intn(len(page)))
	}
	if s != was || torn != tornWas {
		t.Fatal("what was told is another thing now")
	}
	may(t, m)
	tears(t, s, strings.Repeat("x", 256), 33)
}
