package inner_test

import (
	"math"
	"math/rand"
	"slices"
	"strings"
	"testing"
	"unsafe"

	"withy/api"
	"withy/inner"
	"withy/word"
)

// some answers an inner page that may be on pages of all sizes, and has room.
func some() inner.Inner {
	return inner.Inner{Self: 0x0203, Level: 3, Right: 0x0405, High: "abz", Kids: []int{0x0607, 9, 4095, 1, 256}, Seps: []string{"ab", "abc", "abcd", "abd"}}
}

// great are numbers that are far from all that may be.
var great = []int{math.MinInt, math.MinInt + 1, -1 << 32, -1<<32 + 1, -1<<32 + 4095, -65536, -4096, -4095, -2, -1, 1 << 13, 1<<16 + 1, 1<<31 - 1, 1 << 31, 1<<32 - 1, 1 << 32, 1<<32 + 1, 1<<32 + 4095, 1 << 62, math.MaxInt - 1, math.MaxInt}

// noSizes are numbers of bytes that no page has.
var noSizes = append([]int{0, 1, 15, 16, 17, 64, 100, 127, 129, 192, 255, 257, 384, 511, 513, 768, 1023, 1025, 2048, 4096, 1<<32 + 128, 1<<32 + 1024}, great...)

// numbers are some around all that pages' numbers and levels may be, and the great ones.
var numbers = append([]int{-256, -1, 0, 1, 2, 3, 127, 128, 254, 255, 256, 257, 511, 512, 4094, 4095, 4096, 4097, 4351, 8191}, great...)

// long answers n bytes.
func long(n int) string { return strings.Repeat("k", n) }

// kids answers n kids.
func kids(n int) []int {
	var out []int
	for i := range n {
		out = append(out, 10+i)
	}
	return out
}

// page answers an inner page of level 1, with as many kids as its Seps ask for; its Right is 2, if it has a High.
func page(high string, seps ...string) inner.Inner {
	n := inner.Inner{Self: 1, Level: 1, High: high, Kids: kids(len(seps) + 1), Seps: seps}
	if high != "" {
		n.Right = 2
	}
	return n
}

// may looks whether May tells that n may be on pages of p bytes, and Encode a page of it, if it has room.
func may(t *testing.T, n inner.Inner, p int) {
	t.Helper()
	if !mayBe(n, p) {
		t.Fatalf("of %d bytes the model has it that %s may not be", p, shown(n))
	}
	if !inner.May(n, p) {
		t.Fatalf("of %d bytes %s may not be", p, shown(n))
	}
	if got := inner.Size(n); got != sizeOf(n) {
		t.Fatalf("Size of %s: %d; want %d", shown(n), got, sizeOf(n))
	}
	if sizeOf(n) <= p-16 {
		encodes(t, n, p)
	} else {
		noPage(t, n, p, api.ErrBig)
	}
}

// mayNot looks whether May tells that n may not be on pages of p bytes, and Encode that there is none.
func mayNot(t *testing.T, n inner.Inner, p int) {
	t.Helper()
	if mayBe(n, p) {
		t.Fatalf("of %d bytes the model has it that %s may be", p, shown(n))
	}
	if inner.May(n, p) {
		t.Fatalf("of %d bytes %s may be", p, shown(n))
	}
	want := api.ErrArg
	if slices.Contains(sizes, p) {
		want = api.ErrForm
	}
	noPage(t, n, p, want)
}

// mayIf looks whether May tells what is said.
func mayIf(t *testing.T, said bool, n inner.Inner, p int) {
	t.Helper()
	if said {
		may(t, n, p)
	} else {
		mayNot(t, n, p)
	}
}

// encodes looks whether Encode tells the page of one that may be and has room, and Decode what it was.
func encodes(t *testing.T, n inner.Inner, p int) string {
	t.Helper()
	s, e := inner.Encode(n, p)
	if e != api.OK || s != pageOf(n, p) {
		t.Fatalf("Encode(%s, %d): %q, %d; want %q", shown(n), p, s, e, pageOf(n, p))
	}
	decodes(t, s, n)
	return s
}

// noPage looks whether Encode tells an error, and nothing beside it.
func noPage(t *testing.T, n inner.Inner, p int, want api.Errno) {
	t.Helper()
	if s, e := inner.Encode(n, p); s != "" || e != want {
		t.Fatalf("Encode(%s, %d): %q, %d; want %d", shown(n), p, s, e, want)
	}
}

// decodes looks whether Decode tells an inner page.
func decodes(t *testing.T, s string, n inner.Inner) {
	t.Helper()
	if got, e := inner.Decode(s); !equal(got, n) || e != api.OK {
		t.Fatalf("Decode(%q): %s, %d; want %s", s, shown(got), e, shown(n))
	}
}

// none looks whether Decode tells that s is no inner page's, and nothing beside it.
func none(t *testing.T, s string) {
	t.Helper()
	if n, e := inner.Decode(s); !equal(n, inner.Inner{}) || e != api.ErrForm {
		t.Fatalf("Decode of %d bytes, %.80q: %s, %d; want ErrForm", len(s), s, shown(n), e)
	}
}

// asModel looks whether Decode tells what the model does, and answers whether s is a page.
func asModel(t *testing.T, s string) bool {
	t.Helper()
	got, e := inner.Decode(s)
	want, wantErrno := decodeOf(s)
	if e != wantErrno || !equal(got, want) {
		t.Fatalf("Decode(%q): %s, %d; want %s, %d", s, shown(got), e, shown(want), wantErrno)
	}
	return e == api.OK
}

// routes looks whether Route tells a kid.
func routes(t *testing.T, n inner.Inner, key string, want int) {
	t.Helper()
	if got := inner.Route(n, key); got != want {
		t.Fatalf("Route(%s, %q): %d; want %d", shown(n), key, got, want)
	}
}

// endsAt looks what Ends tells.
func endsAt(t *testing.T, n inner.Inner, low string, i int, want end) {
	t.Helper()
	from, to, ends := inner.Ends(n, low, i)
	if got := (end{from, to, ends}); got != want {
		t.Fatalf("Ends(%s, %q, %d): %+v; want %+v", shown(n), low, i, got, want)
	}
}

// The chapter's example, byte by byte.
func TestExample(t *testing.T) {
	n := inner.Inner{Self: 1, Level: 1, Kids: []int{4, 5}, Seps: []string{"m"}}
	const head = "\x03\x01\x02\x00" + "\x00\x00\x00\x00" + "\x01\x00\x00\x00"
	const ahead = "\x01m\x00" + "\x04\x00\x00\x00\x00" + "\x05\x00\x00\x00\x00"
	const directory = "\x0d\x00" + "\x08\x00" + "\x03\x00"
	want := summed(head + "\x00\x00\x00\x00" + ahead + strings.Repeat("\x00", 112-len(ahead)-len(directory)) + directory)
	if s := encodes(t, n, 128); s != want {
		t.Fatalf("%q; want %q", s, want)
	}
	if got := inner.Size(n); got != 3+5+5+6 {
		t.Fatalf("Size is %d", got)
	}
	routes(t, n, "a", 0)
	routes(t, n, "m", 1)
	endsAt(t, n, "low", 0, end{"low", "m", true})
	endsAt(t, n, "low", 1, end{"m", "", false})
}

// P11.1: sizes of pages that may be, and those that may not.
func TestMaySizes(t *testing.T) {
	for _, n := range []inner.Inner{some(), page(""), page("h"), page("", "m")} {
		for p := -1100; p <= 2200; p++ {
			mayIf(t, slices.Contains(sizes, p), n, p)
		}
		for _, p := range noSizes {
			mayNot(t, n, p)
		}
	}
}

// P11.1: each number of its own, each level, and each page at the right, from below the least to above the greatest.
func TestMayNumbers(t *testing.T) {
	for _, p := range sizes {
		for _, i := range numbers {
			isPage := 1 <= i && i <= 4095
			for _, n := range []inner.Inner{page(""), page("", "a", "b"), page("h"), page("h", "a")} {
				at := n
				at.Self = i
				mayIf(t, isPage && i != n.Right, at, p)
				at = n
				at.Level = i
				mayIf(t, 1 <= i && i <= 255, at, p)
				at = n
				at.Right = i
				mayIf(t, i == 0 && n.High == "" || isPage && i != 1 && n.High != "", at, p)
				at.Self = i
				mayNot(t, at, p) // Right is Self
			}
		}
		for _, i := range []int{1, 9, 4095} {
			mayNot(t, inner.Inner{Self: i, Level: 1, Right: i, High: "h", Kids: kids(1)}, p)
			may(t, inner.Inner{Self: i, Level: 1, Right: i ^ 2, High: "h", Kids: kids(1)}, p)
		}
	}
	for i := -10; i <= 4200; i++ {
		isPage := 1 <= i && i <= 4095
		mayIf(t, isPage, inner.Inner{Self: i, Level: 1, Kids: kids(1)}, 128)
		mayIf(t, isPage && i <= 255, inner.Inner{Self: 1, Level: i, Kids: kids(1)}, 128)
		mayIf(t, isPage && i != 77, inner.Inner{Self: 77, Level: 1, Right: i, High: "h", Kids: kids(1)}, 128)
		mayIf(t, isPage, inner.Inner{Self: 77, Level: 1, Kids: []int{i}}, 128)
	}
}

// P11.1: High is empty just if Right is 0.
func TestMayHigh(t *testing.T) {
	for _, p := range sizes {
		for _, seps := range [][]string{nil, {}, {"a"}, {"a", "g"}} {
			n := page("", seps...)
			may(t, n, p)
			for _, high := range []string{"h", "\x00", "\xff", long(p / 8), long(p/8 + 1)} {
				n.High = high
				mayNot(t, n, p)
			}
			n = page("h", seps...)
			may(t, n, p)
			n.High = ""
			mayNot(t, n, p)
		}
		// Above no Sep even the least text may be High.
		may(t, page("\x00"), p)
		mayNot(t, page("\x00", "\x00"), p)
		may(t, page("\x00\x00", "\x00"), p)
	}
}

// P11.1: no kids, one, and more, with as many Seps as kids, one less, two less, and others.
func TestMayCounts(t *testing.T) {
	letters := []string{"a", "b", "c", "d", "e", "f", "g"}
	for _, p := range sizes {
		for k := range 8 {
			for s := range 8 {
				last := inner.Inner{Self: 1, Level: 1, Kids: kids(k), Seps: letters[:s]}
				mayIf(t, k == s+1, last, p)
				other := inner.Inner{Self: 1, Level: 1, Right: 2, High: "h", Kids: kids(k), Seps: letters[:s]}
				mayIf(t, k == s+1, other, p)
			}
		}
		for _, n := range []inner.Inner{{}, {Kids: []int{}}, {Self: 1, Level: 1, Kids: []int{}, Seps: []string{}}, {Self: 1, Level: 1, Right: 2, High: "h"}, {Self: 1, Level: 1, Seps: []string{"a"}}} {
			mayNot(t, n, p)
		}
	}
}

// P11.1: kids from below the least to above the greatest, at each place. What else the page tells of numbers may be a kid's too.
func TestMayKids(t *testing.T) {
	for _, p := range sizes {
		for count := 1; count <= 5; count++ {
			for at := range count {
				for _, kid := range numbers {
					n := inner.Inner{Self: 3, Level: 1, Right: 2, High: "h", Kids: kids(count), Seps: []string{"a", "b", "c", "d"}[:count-1]}
					n.Kids[at] = kid
					mayIf(t, 1 <= kid && kid <= 4095, n, p)
				}
			}
		}
		may(t, inner.Inner{Self: 3, Level: 1, Kids: []int{3, 3, 3}, Seps: []string{"a", "b"}}, p)
	}
}

// P11.1: High and Seps of each length, at each place; an empty Sep.
func TestMayLengths(t *testing.T) {
	for _, p := range sizes {
		lengths := []int{128, 129, 1024, 4096, 1 << 16, 1 << 20}
		for i := range 2*p/8 + 3 {
			lengths = append(lengths, i)
		}
		for _, i := range lengths {
			right := 1 <= i && i <= p/8
			mayIf(t, right, page("", long(i)), p)
			mayIf(t, right, page("l", long(i)), p)
			if i > 0 {
				mayIf(t, right, page(long(i)), p)
				mayIf(t, right, page(long(i), "a"), p)
				mayIf(t, right, page(long(i), "a", "b", "c"), p)
			}
			for at := range 3 {
				seps := []string{"a", "b", "c"}
				seps[at] = (seps[at] + long(i))[:i]
				mayIf(t, right, page("", seps...), p)
				mayIf(t, right, page("d", seps...), p)
			}
		}
	}
}

// rising are texts that rise, the least one that may be a Sep first.
var rising = []string{"\x00", "\x00\x00", "\x00\x01", "\x01", "a", "a\x00", "aa", "ab", "b", "\x7f", "\x80", "\xc3\xa4", "\xff", "\xff\xff"}

// P11.1: Seps that rise, that stand twice, that are turned round, that are High, or above it.
func TestMayRise(t *testing.T) {
	for _, p := range sizes {
		for i, a := range rising {
			for j, b := range rising {
				mayIf(t, i < j, page("", a, b), p)
				mayIf(t, i < j, page(b, a), p)
				mayIf(t, i < j, page("\xff\xff\xff", a, b), p)
				mayIf(t, a+"\xff" < b+"\xff", page(b+"\xff", "\x00", a+"\xff"), p)
				mayIf(t, a+"\xff" < b+"\xff", page("", "\x00", a+"\xff", b+"\xff"), p)
				if all := slices.Clone(rising); i > j {
					may(t, page("", all...), p)
					all[i], all[j] = all[j], all[i]
					mayNot(t, page("", all...), p)
					all[i] = all[j]
					mayNot(t, page("", all...), p)
				}
				mayIf(t, j <= i+1, page(a+"\x00", rising[:j]...), p)
			}
		}
	}
}

// P11.1: inner pages that are unlike in just one thing are not the same.
func TestSame(t *testing.T) {
	change := []func(n *inner.Inner){
		func(n *inner.Inner) { n.Self++ },
		func(n *inner.Inner) { n.Self = 0 },
		func(n *inner.Inner) { n.Level++ },
		func(n *inner.Inner) { n.Level = 0 },
		func(n *inner.Inner) { n.Right++ },
		func(n *inner.Inner) { n.Right = 0 },
		func(n *inner.Inner) { n.High += "\x00" },
		func(n *inner.Inner) { n.High = "" },
		func(n *inner.Inner) { n.Kids = n.Kids[1:] },
		func(n *inner.Inner) { n.Kids = n.Kids[:4] },
		func(n *inner.Inner) { n.Kids = nil },
		func(n *inner.Inner) { n.Kids = append(n.Kids, 0) },
		func(n *inner.Inner) { n.Kids = append(n.Kids, n.Kids[4]) },
		func(n *inner.Inner) { slices.Reverse(n.Kids) },
		func(n *inner.Inner) { n.Seps = n.Seps[1:] },
		func(n *inner.Inner) { n.Seps = n.Seps[:3] },
		func(n *inner.Inner) { n.Seps = nil },
		func(n *inner.Inner) { n.Seps = append(n.Seps, "") },
		func(n *inner.Inner) { n.Seps = append(n.Seps, n.Seps[3]) },
		func(n *inner.Inner) { slices.Reverse(n.Seps) },
	}
	for i := range 5 {
		change = append(change, func(n *inner.Inner) { n.Kids[i]++ })
	}
	for i := range 4 {
		change = append(change, func(n *inner.Inner) { n.Seps[i] += "\x00" }, func(n *inner.Inner) { n.Seps[i] = "" })
	}
	pages := []inner.Inner{some()}
	for _, f := range change {
		n := some()
		f(&n)
		pages = append(pages, n)
	}
	for i, a := range pages {
		for j, b := range pages {
			if got := inner.Same(a, b); got != (i == j) {
				t.Fatalf("Same(%s, %s) is %t", shown(a), shown(b), got)
			}
		}
		if !inner.Same(a, copied(a)) {
			t.Fatalf("%s is not the same as its copy", shown(a))
		}
	}
}

// P11.1, R3: nil lists and empty ones are the same.
func TestSameWithoutItems(t *testing.T) {
	empty := []inner.Inner{{}, {Kids: []int{}}, {Seps: []string{}}, {Kids: make([]int, 0, 9), Seps: make([]string, 0, 9)}, {Kids: kids(3)[:0], Seps: rising[:0]}}
	for _, a := range empty {
		for _, b := range empty {
			if !inner.Same(a, b) {
				t.Fatalf("nil lists and empty ones: %s, %s", shown(a), shown(b))
			}
		}
		for _, b := range []inner.Inner{{Kids: make([]int, 1)}, {Seps: make([]string, 1)}} {
			if inner.Same(a, b) || inner.Same(b, a) {
				t.Fatalf("no items and a zero one: %s, %s", shown(a), shown(b))
			}
		}
	}
	for _, p := range sizes {
		a := encodes(t, inner.Inner{Self: 1, Level: 1, Kids: kids(1)}, p)
		b := encodes(t, inner.Inner{Self: 1, Level: 1, Kids: kids(1), Seps: []string{}}, p)
		if a != b {
			t.Fatal("nil Seps and empty ones have unlike pages")
		}
	}
}

// P11.1: how many bytes inner pages need, written out; and of some that no page has room for.
func TestSize(t *testing.T) {
	for _, x := range []struct {
		n    inner.Inner
		want int
	}{
		{page(""), 2 + 5 + 4},
		{page("h"), 3 + 5 + 4},
		{page(long(128)), 130 + 5 + 4},
		{page("", "m"), 3 + 5 + 5 + 6},
		{page("", long(128)), 130 + 5 + 5 + 6},
		{page("l", long(128)), 131 + 5 + 5 + 6},
		{page("", "abc", "abd"), 4 + 5 + 6 + 6 + 8},
		{page("", "abc", "b"), 2 + 5 + 8 + 6 + 8},
		{page("abz", "abc", "abcd"), 4 + 4 - 1 + 1 + 5 + 5 + 6 + 8},
		{some(), 7 + 5 + 5 + 6 + 7 + 6 + 12},
	} {
		if got := inner.Size(x.n); got != x.want || sizeOf(x.n) != x.want {
			t.Fatalf("Size(%s): %d; want %d", shown(x.n), got, x.want)
		}
	}
	var seps []string
	for i := range 70000 {
		seps = append(seps, "s"+string([]byte{byte(i >> 16), byte(i >> 8), byte(i)}))
	}
	for _, x := range []struct{ count, common int }{{1, 4}, {2, 3}, {256, 3}, {257, 2}, {65535, 2}, {65536, 2}, {65537, 1}, {70000, 1}} {
		n := page("", seps[:x.count]...)
		for i := range n.Kids {
			n.Kids[i] = 1 + i%4095
		}
		if got, want := inner.Size(n), 2+x.common+5+2+x.count*(7+4-x.common)+2; got != want {
			t.Fatalf("%d Seps: Size is %d; want %d", x.count, got, want)
		}
		for _, p := range sizes {
			if x.count > 2 {
				noPage(t, n, p, api.ErrBig)
			}
		}
	}
}

// P11.2, R2: of several things that are wrong the page's size is told first, then what may not be, then that it has no room.
func TestEncodeErrorsInOrder(t *testing.T) {
	var seps []string
	for i := range 300 {
		seps = append(seps, string([]byte{byte(i >> 8), byte(i), 's'}))
	}
	big := page("\xff", seps...)
	wrong := []inner.Inner{{}}
	for _, f := range []func(n *inner.Inner){
		func(n *inner.Inner) { n.Self = 0 },
		func(n *inner.Inner) { n.Level = 0 },
		func(n *inner.Inner) { n.Level = 256 },
		func(n *inner.Inner) { n.Right = 1 },
		func(n *inner.Inner) { n.Right = 0 },
		func(n *inner.Inner) { n.High = "" },
		func(n *inner.Inner) { n.High = "\x01" },
		func(n *inner.Inner) { n.Kids[300] = 0 },
		func(n *inner.Inner) { n.Kids = n.Kids[:300] },
		func(n *inner.Inner) { n.Seps = n.Seps[:299] },
		func(n *inner.Inner) { n.Seps[0] = "" },
		func(n *inner.Inner) { n.Seps[299] = n.Seps[298] },
		func(n *inner.Inner) { n.Seps[299] += long(129) },
	} {
		n := copied(big)
		f(&n)
		wrong = append(wrong, n)
	}
	for _, p := range sizes {
		noPage(t, big, p, api.ErrBig)
		for _, n := range wrong {
			noPage(t, n, p, api.ErrForm)
		}
	}
	for _, p := range noSizes {
		noPage(t, some(), p, api.ErrArg)
		noPage(t, big, p, api.ErrArg)
		for _, n := range wrong {
			noPage(t, n, p, api.ErrArg)
		}
	}
}

// sized answers an inner page whose Size is a given one, with a High, if it is not empty; its Seps have nothing in common, and at most 16 bytes each, as pages of all sizes have them.
func sized(size int, high string) inner.Inner {
	left := size - 4 - len(high) // for the kids, 7 bytes each, and for the Seps
	count := (left + 16 + 22) / 23
	left -= 7 * count
	var seps []string
	for i := 1; i < count; i++ {
		// Each Sep that is behind needs a byte.
		more := min(16, left-(count-1-i))
		seps = append(seps, string([]byte{byte(i)})+long(more-1))
		left -= more
	}
	return page(high, seps...)
}

// P11.2: room that is just enough, and more, and one byte less, and less than that.
func TestEncodeRoom(t *testing.T) {
	for _, p := range sizes {
		for size := p - 16 - 40; size <= p-16+200; size++ {
			for _, high := range []string{"", "z", strings.Repeat("z", p/8)} {
				n := sized(size, high)
				if got := inner.Size(n); got != size || sizeOf(n) != size {
					t.Fatalf("Size(%s): %d; want %d", shown(n), got, size)
				}
				if may(t, n, p); size <= p-16 {
					encodes(t, n, p)
				} else {
					noPage(t, n, p, api.ErrBig)
				}
			}
		}
		// As many kids as there can be, with Seps of one byte; and one more.
		var seps []string
		for i := 1; 4+7*(i+1)+i <= p-16; i++ {
			seps = append(seps, string([]byte{byte(i)}))
		}
		encodes(t, page("", seps...), p)
		noPage(t, page("", append(seps, "\xff")...), p, api.ErrBig)
	}
}

// P11.2: the bytes of pages, place by place.
func TestEncodePlaces(t *testing.T) {
	want := "\x03\x03\x05\x00" + "\x05\x04\x00\x00" + "\x03\x02\x00\x00" + "\x00\x00\x00\x00" +
		"\x02ab\x03abz" + "\x07\x06\x00\x00\x00" + "\x09\x00\x00\x00\x00" + "\xff\x0f\x00\x00\x01c" + "\x01\x00\x00\x00\x02cd" + "\x00\x01\x00\x00\x01d"
	const directory = "\x24\x00" + "\x1e\x00" + "\x17\x00" + "\x11\x00" + "\x0c\x00" + "\x07\x00"
	for _, p := range sizes {
		s := encodes(t, some(), p)
		if full := summed(want + strings.Repeat("\x00", p-len(want)-len(directory)) + directory); s != full {
			t.Fatalf("%q; want %q", s, full)
		}
		s = encodes(t, inner.Inner{Self: 4095, Level: 255, Kids: []int{0x0abc}}, p)
		if full := summed("\x03\xff\x01\x00\x00\x00\x00\x00\xff\x0f\x00\x00\x00\x00\x00\x00\x00\x00\xbc\x0a\x00\x00\x00" + strings.Repeat("\x00", p-27) + "\x07\x00\x02\x00"); s != full {
			t.Fatalf("%q; want %q", s, full)
		}
		s = encodes(t, inner.Inner{Self: 1, Level: 1, Right: 4095, High: "\x00", Kids: []int{4095}}, p)
		if full := summed("\x03\x01\x01\x00\xff\x0f\x00\x00\x01\x00\x00\x00\x00\x00\x00\x00\x00\x01\x00\xff\x0f\x00\x00\x00" + strings.Repeat("\x00", p-28) + "\x08\x00\x03\x00"); s != full {
			t.Fatalf("%q; want %q", s, full)
		}
		// One Sep alone is all of it what the Seps have in common; High, and the first kid, don't count.
		s = encodes(t, page("z", "sep"), p)
		if s[16:32] != "\x03sep\x01z\x0a\x00\x00\x00\x00\x0b\x00\x00\x00\x00" || s[p-6:] != "\x10\x00\x0b\x00\x06\x00" {
			t.Fatalf("%q", s)
		}
	}
}

// P11.2: numbers of bytes that no page has, and pages that are cut short, or have bytes behind.
func TestDecodeSizes(t *testing.T) {
	none(t, "")
	for _, p := range sizes {
		s := encodes(t, some(), p)
		for i := range len(s) {
			none(t, s[:i])
			none(t, s[i+1:])
		}
		for _, i := range []int{1, 2, 64, 127, 128, 129, 256, 257, 512, 1024, 4096} {
			none(t, s+strings.Repeat("\x00", i))
			none(t, strings.Repeat("\x00", i)+s)
		}
		none(t, s+s)
		none(t, strings.Repeat("\x00", p))
		none(t, strings.Repeat("\xff", p))
	}
	for i := range 2100 {
		none(t, strings.Repeat("\x00", i))
		if i >= 31 && !slices.Contains(sizes, i) {
			// All is right but for the size.
			none(t, sealed(3, 1, 1, 0, 1, "\x00\x00\x05\x00\x00\x00\x00"+strings.Repeat("\x00", i-27)+"\x07\x00\x02\x00"))
		}
	}
}

// P11.2: pages in which any one byte is another one, with the sum as it was, and with the one that they ought to have.
func TestDecodeOtherBytes(t *testing.T) {
	decoded := 0
	for _, p := range sizes {
		step := p / 128 * p / 128
		for _, n := range []inner.Inner{some(), page(""), page("", "ab", "ac")} {
			s := encodes(t, n, p)
			for at := range p {
				for change := 1; change < 256; change += step {
					out := []byte(s)
					out[at] ^= byte(change)
					none(t, string(out))
					if again := summed(string(out)); again != s && asModel(t, again) {
						decoded++
					}
				}
			}
		}
	}
	if decoded < 1000 {
		t.Fatalf("no more than %d pages decoded", decoded)
	}
}

// P11.2: pages sealed with another Kind, Level or Count, or page at the right, or number of its own.
func TestDecodeHeads(t *testing.T) {
	for _, p := range sizes {
		n := some()
		body := encodes(t, n, p)[16:]
		for i := range 256 {
			if i != 3 {
				none(t, sealed(i, n.Level, 5, n.Right, n.Self, body))
			}
			s, other := sealed(3, i, 5, n.Right, n.Self, body), n
			if other.Level = i; i == 0 {
				none(t, s)
			} else {
				decodes(t, s, other)
			}
		}
		for i := range 65536 {
			if i != 5 && (p == 128 || i < 1200 || i%997 == 0 || i > 65500) {
				none(t, sealed(3, n.Level, i, n.Right, n.Self, body))
			}
		}
		for _, i := range []int{0, 1, 2, 3, n.Self, n.Right, 4094, 4095, 4096, 4097, 1 << 16, 1<<16 + 1, 1<<31 + 1, 1<<32 - 1} {
			right, self := n, n
			right.Right, self.Self = i, i
			for _, x := range []inner.Inner{right, self} {
				s := sealed(3, x.Level, 5, x.Right, x.Self, body)
				if mayBe(x, p) {
					decodes(t, s, x)
				} else {
					none(t, s)
				}
			}
		}
		// Without High there is no page at the right.
		body = encodes(t, page("", "a"), p)[16:]
		for _, i := range []int{1, 2, 3, 4095} {
			none(t, sealed(3, 1, 2, i, 1, body))
		}
	}
}

// P11.2: fixed bytes that tell more or less than what the Seps have in common, that are cut short, or have bytes behind.
func TestDecodeFixed(t *testing.T) {
	for _, p := range sizes {
		for _, n := range []inner.Inner{page("", "abc"), page("", "abc", "abd"), page("abz", "ab", "abc", "abd"), page("b", "abc", "abcd")} {
			for i := range len(commonOf(n)) + 1 {
				cells := []string{kidOf(10, "")}
				for j, s := range n.Seps {
					cells = append(cells, kidOf(11+j, s[i:]))
				}
				s := laid(p, n, textOf("abc"[:i])+textOf(n.High), cells...)
				if i == len(commonOf(n)) {
					decodes(t, s, n)
				} else {
					none(t, s)
				}
			}
		}
		// Of no Seps they have nothing in common.
		for _, common := range []string{"a", "abc", "\x00"} {
			none(t, laid(p, page(""), textOf(common)+"\x00", kidOf(10, "")))
			none(t, laid(p, page("b"), textOf(common)+"\x01b", kidOf(10, "")))
			none(t, laid(p, page(""), textOf(common)+"\x00"))
		}
		two := page("", "abc", "abd")
		cells := cellsOf(two)
		decodes(t, laid(p, two, "\x02ab\x00", cells...), two)
		for _, fixed := range []string{"", "\x02", "\x02a", "\x02ab", "\x03ab\x00", "\x01ab\x00", "\x02ab\x00\x00", "\x02ab\x00a", "\x02ab\x01", "\x02ab\x01b", "\x02ab\x02b", "\x00\x02ab\x00", "ab", "\xfa\x00\x00\x02ab\x00", "\x02ab\xfa\x00\x00\x00",
			"\xff\x00\x00\x00\x00\x00\x00\x00\x02ab\x00", "\x02ab\xff\x00\x00\x00\x00\x00\x00\x00\x00"} {
			none(t, laid(p, two, fixed, cells...))
		}
	}
}

// P11.2: lengths in the fixed bytes that are above what follows, each of them, up to the greatest.
func TestDecodeLengths(t *testing.T) {
	lengths := []string{"\xff\xff\xff\xff\xff\xff\xff\xff\xff", "\xff\x80\x00\x00\x00\x00\x00\x00\x00", "\xff\x7f\xff\xff\xff\xff\xff\xff\xff", "\xff\x80\x00\x00\x00\x00\x00\x00\x01", "\xff\xff\xff\xff\xff\xff\xff\xff\x80",
		"\xfe\x01\x00\x00\x00\x00\x00\x00", "\xfd\x01\x00\x00\x00\x00\x00", "\xfc\x01\x00\x00\x00\x00", "\xfc\x01\x00\x00\x00\x01", "\xfc\xff\xff\xff\xff", "\xfb\x80\x00\x00\x00", "\xfb\x7f\xff\xff\xff", "\xfa\x01\x08\xf0", "\xf9\xff\xff", "\xf9\x00\x00", "\xf8\xff"}
	for i := range 1100 {
		lengths = append(lengths, word.Put(uint64(i)))
	}
	one := page("")
	for _, p := range sizes {
		for _, l := range lengths {
			for _, fixed := range []string{l, l + "\x00", "\x00" + l, "\x01a" + l, l + "a", l + l} {
				asModel(t, laid(p, one, fixed))
				asModel(t, laid(p, one, fixed, kidOf(10, "")))
			}
			if l != "\x00" {
				none(t, laid(p, one, l+"\x00", kidOf(10, "")))
				none(t, laid(p, one, "\x00"+l, kidOf(10, "")))
			}
		}
		// At the end of the body: a length of which not all bytes stand there.
		for _, last := range []string{"\xf1", "\xff", "\xfa\x01\x08", "\xff\xff\xff\xff\xff\xff\xff\xff"} {
			room := p - 16 - len(last)
			n := room - 1
			for len(textOf(long(n))) > room {
				n--
			}
			none(t, sealed(3, 1, 1, 0, 1, textOf(long(n))+last))
		}
	}
}

// P11.2: cells that are none, a first cell that has bytes of a Sep, and directories that are not the cells'.
func TestDecodeCells(t *testing.T) {
	n := page("", "ab", "ac")
	for _, p := range sizes {
		firstOne, middle, last := kidOf(10, ""), kidOf(11, "b"), kidOf(12, "c")
		decodes(t, laid(p, n, "\x01a\x00", firstOne, middle, last), n)
		for _, bad := range []string{"", "\x0b", "\x0b\x00\x00\x00", "\x0b\x00\x00\x00\x01", "\x0b\x00\x00\x00\x02b", "\x0b\x00\x00\x00\x01bb", "\x0b\x00\x00\x00\x00b", "\x0b\x00\x00\x00\x01b\x00", "\x00\x00\x00\x00\x01b", "\x00\x10\x00\x00\x01b",
			"\x0b\x00\x01\x00\x01b", "\x0b\x00\x00\x01\x01b", "\x0b\x00\x00\x80\x01b", "\xff\xff\xff\xff\x01b", "\x0b\x00\x00\x00\xfa\x00\x00\x01b", "\x0b\x00\x00\x00\xff\xff\xff\xff\xff\xff\xff\xff\xff", "\x0b\x00\x00\x00\xff\x80\x00\x00\x00\x00\x00\x00\x00", "\x01b\x00\x01x", "\x00\x0b\x00\x00\x00\x01b",
			"\x00\x00\x00\x00\x00", "\x00\x10\x00\x00\x00", "\xff\xff\xff\xff\x00", "\x0a\x00\x00\x00\xfa\x00\x00\x00"} {
			none(t, laid(p, n, "\x01a\x00", bad, middle, last))
			none(t, laid(p, n, "\x01a\x00", firstOne, bad, last))
			none(t, laid(p, n, "\x01a\x00", firstOne, middle, bad))
			none(t, laid(p, n, "\x00\x00", bad))
		}
		if p > 256 {
			none(t, laid(p, n, "\x00\x00", kidOf(10, ""), kidOf(11, long(129))))
		}
		for _, rest := range []string{"b", "a", "\x00", "B", "ab", long(p / 8)} {
			none(t, laid(p, n, "\x01a\x00", kidOf(10, rest), middle, last))
			none(t, laid(p, n, "\x00\x00", kidOf(10, rest)))
			none(t, laid(p, n, "\x01a\x00", kidOf(10, rest), kidOf(11, "")))
		}
		body := bodyOf(p-16, "\x01a\x00", []string{firstOne, middle, last})
		for _, f := range []func(out []byte){
			func(out []byte) { out[len(out)-2]++ },                         // the first cell begins later
			func(out []byte) { out[len(out)-4]++ },                         // the first one ends later
			func(out []byte) { out[len(out)-8]++ },                         // the last one ends later
			func(out []byte) { out[len(out)-8]-- },                         // the last one ends earlier
			func(out []byte) { out[len(out)-1]++ },                         // far beyond
			func(out []byte) { out[len(out)-3] = 255 },                     // far beyond
			func(out []byte) { out[len(out)-7] = 255 },                     // far beyond
			func(out []byte) { out[20] = 1 },                               // not 0, behind the cells
			func(out []byte) { out[len(out)-9] = 1 },                       // not 0, ahead of the directory
			func(out []byte) { out[len(out)-4], out[len(out)-6] = 14, 8 },  // turned round
			func(out []byte) { out[len(out)-6] = 8 },                       // a cell without bytes
			func(out []byte) { out[len(out)-10], out[len(out)-9] = 20, 0 }, // a place more
		} {
			out := []byte(body)
			f(out)
			none(t, sealed(3, 1, 3, 0, 1, string(out)))
		}
	}
}

// P11.2: pages of what may not be, with all else as the chapter has it.
func TestDecodeWhatMayNotBe(t *testing.T) {
	for _, p := range sizes {
		made := func(self, level, right int, high string, kids ...int) inner.Inner {
			return inner.Inner{Self: self, Level: level, Right: right, High: high, Kids: kids, Seps: rising[:max(0, len(kids)-1)]}
		}
		for what, n := range map[string]inner.Inner{
			"a Sep twice":                      page("", "a", "a"),
			"a Sep twice, among others":        page("", "A", "a", "a", "b"),
			"Seps turned round":                page("", "b", "a"),
			"Seps turned round at the end":     page("", "a", "c", "b"),
			"a Sep ahead of what it begins":    page("", "ab", "a"),
			"bytes are not below 0":            page("", "\x80", "\x7f"),
			"an empty Sep":                     page("", ""),
			"an empty Sep ahead":               page("", "", "a"),
			"an empty Sep behind":              page("", "a", ""),
			"two empty Seps":                   page("", "", ""),
			"High is the last Sep":             page("b", "a", "b"),
			"High is below the last Sep":       page("b", "a", "ba"),
			"High is below all Seps":           page("A", "a", "b"),
			"High is the only Sep":             page("b", "b"),
			"High, and no page at the right":   made(1, 1, 0, "h", 3, 4),
			"a page at the right, and no High": made(1, 1, 2, "", 3, 4),
			"the same, of one kid":             made(1, 1, 2, "", 3),
			"itself at the right":              made(1, 1, 1, "h", 3, 4),
			"number 0":                         made(0, 1, 2, "h", 3, 4),
			"number 4096":                      made(4096, 1, 2, "h", 3, 4),
			"4096 at the right":                made(1, 1, 4096, "h", 3, 4),
			"level 0":                          made(1, 0, 2, "h", 3, 4),
			"kid 0":                            made(1, 1, 2, "h", 3, 0),
			"kid 0 ahead":                      made(1, 1, 0, "", 0, 3),
			"kid 4096":                         made(1, 1, 2, "h", 4096, 3),
			"no kids":                          made(1, 1, 0, ""),
			"no kids, but High":                made(1, 1, 2, "h"),
			"a long Sep":                       page("", long(p/8+1)),
			"a long Sep behind one":            page("", "a", long(p/8+1)),
			"a long Sep of two parts":          page("", long(p/8), long(p/8)+"a"),
			"a long High":                      page(long(p/8 + 1)),
			"a long High above a Sep":          page(long(p/8+1), "a"),
		} {
			if got, e := inner.Decode(pageOf(n, p)); !equal(got, inner.Inner{}) || e != api.ErrForm {
				t.Fatalf("%d bytes, %s: %s, %d; want ErrForm", p, what, shown(got), e)
			}
			mayNot(t, n, p)
		}
	}
}

// P11.2: a page of one size is none at another one, if its Seps or its High may not be there.
func TestDecodeByItsSize(t *testing.T) {
	for _, p := range sizes {
		for _, q := range sizes {
			for _, n := range []inner.Inner{page("", long(p/8)), page("l", "a", long(p/8)), page(long(p / 8))} {
				mayIf(t, p <= q, n, q)
				if s := summed(pageOf(n, max(p, q))[:q]); p <= q {
					decodes(t, s, n)
				} else {
					none(t, s)
				}
				if sizeOf(n) <= q-16 && p > q {
					none(t, pageOf(n, q))
				}
			}
		}
	}
}

// P11.3: Route of each Sep, of keys one byte below and above it, of the empty key, and of keys above all Seps.
func TestRoute(t *testing.T) {
	all := []string{"b", "bb", "bbb\x00", "d", "d\x01", "m", "\xfe", "\xfe\xfe"}
	for mask := range 1 << len(all) {
		var seps []string
		for i, s := range all {
			if mask>>i&1 == 1 {
				seps = append(seps, s)
			}
		}
		n := page("\xff", seps...)
		for i, s := range seps {
			routes(t, n, s, i+1)
			routes(t, n, s+"\x00", i+1)
			last := len(s) - 1
			below := s[:last] + string([]byte{s[last] - 1}) + "\xff\xff\xff"
			if s[last] == 0 {
				below = s[:last]
			}
			routes(t, n, below, i)
			if above := s[:last] + string([]byte{s[last] + 1}); i == len(seps)-1 || above < seps[i+1] {
				routes(t, n, above, i+1)
			}
		}
		routes(t, n, "", 0)
		routes(t, n, "a", 0)
		for _, key := range []string{"\xfe\xfe\x00", "\xff", "\xff\xff", strings.Repeat("\xff", 1000)} {
			routes(t, n, key, len(seps))
		}
		for _, key := range []string{"b\x00", "ba", "bbb", "bc", "c", "d\x00", "d\x00\xff", "dd", "l", "M", "n", "\x80", "\xfd", "\xfe\xfd", long(300)} {
			routes(t, n, key, routeOf(n, key))
		}
	}
}

// P11.3: with one kid all keys are its own; and inner pages whose Seps don't rise have as many as are not above the key.
func TestRouteOthers(t *testing.T) {
	for _, key := range []string{"", "\x00", "a", "h", "\xff", long(1000)} {
		for _, n := range []inner.Inner{page(""), page("h"), page("\x00"), {}, {Kids: []int{}, Seps: []string{}}} {
			routes(t, n, key, 0)
		}
	}
	n := page("", "c", "a", "", "b", "b")
	for key, want := range map[string]int{"": 1, "A": 1, "a": 2, "aa": 2, "b": 4, "bb": 4, "c": 5, "d": 5} {
		routes(t, n, key, want)
	}
}

// P11.3: Ends of each kid and of none, with a page at the right and without, from any low on.
func TestEnds(t *testing.T) {
	for _, low := range []string{"", "a", "abb", "low", "\xff", long(1000)} {
		n := some()
		for i, want := range []end{{low, "ab", true}, {"ab", "abc", true}, {"abc", "abcd", true}, {"abcd", "abd", true}, {"abd", "abz", true}} {
			endsAt(t, n, low, i, want)
		}
		n.Right, n.High = 0, ""
		for i, want := range []end{{low, "ab", true}, {"ab", "abc", true}, {"abc", "abcd", true}, {"abcd", "abd", true}, {"abd", "", false}} {
			endsAt(t, n, low, i, want)
		}
		endsAt(t, page(""), low, 0, end{low, "", false})
		endsAt(t, page("h"), low, 0, end{low, "h", true})
		for _, x := range []inner.Inner{some(), n, page(""), page("h"), page("", "a"), page("h", "a"), {}, {Right: 2, High: "h"}} {
			for i := range 70 {
				endsAt(t, x, low, len(x.Kids)+i, end{})
				endsAt(t, x, low, -1-i, end{})
			}
			for _, i := range great {
				endsAt(t, x, low, i, end{})
			}
		}
	}
}

// P11.4: each key has just one kid, that between whose ends it is; and kids' ends are one behind the other.
func TestEachKeyHasOneKid(t *testing.T) {
	source := rand.New(rand.NewSource(111))
	for range 800 {
		n := anyInner(source, sizes[source.Intn(4)])
		low := ""
		if len(n.Seps) > 0 && source.Intn(2) == 0 {
			low = n.Seps[0][:len(n.Seps[0])-1]
		}
		var l []end
		for i := range n.Kids {
			from, to, ends := inner.Ends(n, low, i)
			l = append(l, end{from, to, ends})
			endsAt(t, n, low, i, endsOf(n, low, i))
			if i > 0 && (l[i-1].high != from || !l[i-1].ends) {
				t.Fatalf("%s: kid %d begins at %q, the one ahead ends at %q", shown(n), i, from, l[i-1].high)
			}
		}
		keys := []string{"", "\xff", low, low + "\x00", n.High, anyText(source, source.Intn(20))}
		for _, s := range n.Seps {
			keys = append(keys, s, s+"\x00", s[:len(s)-1], s+anyText(source, 2))
		}
		for _, key := range keys {
			routes(t, n, key, routeOf(n, key))
			if key < low || n.Right != 0 && key >= n.High {
				continue
			}
			for i, x := range l {
				between := key >= x.low && (!x.ends || key < x.high)
				if between != (i == inner.Route(n, key)) {
					t.Fatalf("%s: key %q between the ends of kid %d: %t; Route is %d", shown(n), key, i, between, inner.Route(n, key))
				}
			}
		}
	}
}

// P11.4: one of one kid, or of two, that may be always has room, with Highs and Seps of each length up to the longest.
func TestOneOrTwoKidsHaveRoom(t *testing.T) {
	for _, p := range sizes {
		for high := range p/8 + 1 {
			n := inner.Inner{Self: 4095, Level: 255, High: strings.Repeat("z", high), Kids: []int{4095}}
			if high > 0 {
				n.Right = 4094
			}
			encodes(t, n, p)
			n.Kids = []int{4095, 4094}
			for length := 1; length <= p/8; length++ {
				n.Seps = []string{long(length)}
				encodes(t, n, p)
			}
		}
	}
}

// P11.4: unlike inner pages have unlike pages, of all of a few kids and Seps.
func TestUnlikePages(t *testing.T) {
	heads := []inner.Inner{{Self: 1, Level: 1}, {Self: 2, Level: 1}, {Self: 1, Level: 2}, {Self: 1, Level: 1, Right: 2, High: "c"}, {Self: 1, Level: 1, Right: 2, High: "cb"}, {Self: 1, Level: 1, Right: 3, High: "c"}}
	texts := []string{"\x00", "a", "ab", "abb", "b", "bb"}
	seen := map[string]bool{}
	for mask := range 1 << len(texts) {
		var seps []string
		for i, s := range texts {
			if mask>>i&1 == 1 {
				seps = append(seps, s)
			}
		}
		for other := range len(seps) + 2 {
			for _, n := range heads {
				// All kids are 1, but one of them, or none.
				for range len(seps) + 1 {
					n.Kids = append(n.Kids, 1)
				}
				if n.Seps = seps; other > 0 {
					n.Kids[other-1] = 256
				}
				s := encodes(t, n, 128)
				if seen[s] {
					t.Fatalf("the page of %s is another one's too", shown(n))
				}
				seen[s] = true
			}
		}
	}
}

// P11.1 to P11.4: inner pages of chance, some of which may not be, or have no room, held against the chapter's words.
func TestEncodeOfChance(t *testing.T) {
	source := rand.New(rand.NewSource(112))
	found := map[api.Errno]int{}
	for range 20000 {
		p := sizes[source.Intn(4)]
		n := anyInner(source, p)
		if source.Intn(3) == 0 {
			spoil(source, &n)
		}
		if source.Intn(20) == 0 {
			p = noSizes[source.Intn(len(noSizes))]
		}
		s, e := inner.Encode(n, p)
		if want, wantErrno := encodeOf(n, p); s != want || e != wantErrno || inner.May(n, p) != mayBe(n, p) {
			t.Fatalf("Encode(%s, %d): %q, %d; want %q, %d", shown(n), p, s, e, want, wantErrno)
		}
		found[e]++
		if e == api.OK {
			decodes(t, s, n)
		}
		if (e == api.OK || e == api.ErrBig) && inner.Size(n) != sizeOf(n) {
			t.Fatalf("Size(%s): %d; want %d", shown(n), inner.Size(n), sizeOf(n))
		}
	}
	if found[api.OK] < 5000 || found[api.ErrForm] < 1000 || found[api.ErrBig] < 500 || found[api.ErrArg] < 300 {
		t.Fatal(found)
	}
}

// spoil makes an inner page another one, that may be or not.
func spoil(source *rand.Rand, n *inner.Inner) {
	kid := &n.Kids[source.Intn(len(n.Kids))]
	switch source.Intn(8) {
	case 0:
		n.Self = source.Intn(5000)
	case 1:
		n.Right = []int{0, n.Self, -1, 4095, 4096}[source.Intn(5)]
	case 2:
		n.High = anyText(source, source.Intn(140))
	case 3:
		n.High, n.Right = "", 0
	case 4:
		n.Level = []int{-1, 0, 1, 255, 256}[source.Intn(5)]
	case 5:
		*kid = []int{-1, 0, 1, 4095, 4096}[source.Intn(5)]
	case 6:
		n.Kids = append(n.Kids, *kid)
	default:
		if i := len(n.Seps); i > 0 {
			a, b := &n.Seps[source.Intn(i)], &n.Seps[source.Intn(i)]
			*a, *b = *b+anyText(source, source.Intn(2)), *a
		}
	}
}

// P11.2, P11.4: pages changed by chance, with the sum that they ought to have, held against the chapter's words; what decodes is encoded again as it was.
func TestDecodeOfChance(t *testing.T) {
	source := rand.New(rand.NewSource(113))
	pages := 0
	const times = 20000
	for range times {
		p := sizes[source.Intn(3)]
		n := anyInner(source, p)
		for sizeOf(n) > p-16 {
			n.Kids, n.Seps = n.Kids[1:], n.Seps[1:]
		}
		s := changed(source, pageOf(n, p))
		if !asModel(t, s) {
			continue
		}
		pages++
		got, _ := inner.Decode(s)
		if again, e := inner.Encode(got, p); again != s || e != api.OK || !inner.May(got, p) {
			t.Fatalf("%q is encoded again as %q, %d", s, again, e)
		}
	}
	if pages < 5000 || pages > times-5000 {
		t.Fatalf("%d pages of %d", pages, times)
	}
}

// changed answers a page with some bytes changed, most where something stands, and the sum that it ought to have.
func changed(source *rand.Rand, s string) string {
	out := []byte(s)
	for range source.Intn(3) {
		at := []int{source.Intn(len(out)), len(out) - 1 - source.Intn(12), 16 + source.Intn(24)}[source.Intn(3)]
		out[at] = []byte{byte(source.Intn(256)), out[at] + 1, out[at] - 1}[source.Intn(3)]
	}
	return summed(string(out))
}

// Decode of texts that are no pages at all, or look like some.
func TestDecodeOfAnyText(t *testing.T) {
	source := rand.New(rand.NewSource(114))
	for range 5000 {
		none(t, anyText(source, source.Intn(1100)))
		body := anyText(source, sizes[source.Intn(4)]-16)
		asModel(t, sealed(3, source.Intn(3), source.Intn(4), source.Intn(2), 3, body))
	}
}

// apart looks whether no two texts share memory.
func apart(t *testing.T, texts []string) {
	t.Helper()
	for i, a := range texts {
		for _, b := range texts[:i] {
			one, two := uintptr(unsafe.Pointer(unsafe.StringData(a))), uintptr(unsafe.Pointer(unsafe.StringData(b)))
			if one < two+uintptr(len(b)) && two < one+uintptr(len(a)) {
				t.Fatalf("%q and %q share memory", a, b)
			}
		}
	}
}

// R4: what is told is new memory, lists and texts, spare room too.
func TestAnswersAreNew(t *testing.T) {
	n := page("common v of all", "common t", "common text", "common u")
	s := encodes(t, n, 256)
	again, _ := inner.Encode(n, 256)
	a, _ := inner.Decode(s)
	b, _ := inner.Decode(s)
	low := strings.Clone("common")
	texts := []string{s, again, low}
	for _, x := range []inner.Inner{n, a, b} {
		texts = append(append(texts, x.High), x.Seps...)
	}
	for i := range n.Kids {
		from, to, _ := inner.Ends(n, low, i)
		texts = append(texts, from, to)
	}
	apart(t, texts)
	if unsafe.SliceData(a.Kids) == unsafe.SliceData(b.Kids) || unsafe.SliceData(a.Seps) == unsafe.SliceData(b.Seps) {
		t.Fatal("two answers share a list")
	}
	clear(a.Kids[:cap(a.Kids)])
	clear(a.Seps[:cap(a.Seps)])
	decodes(t, s, n)
	if !equal(b, n) {
		t.Fatal("an answer changed with another one")
	}
}

// R4: what was handed in stays as it was, the room behind a list too, and may be changed afterwards.
func TestArgumentsStay(t *testing.T) {
	roomOfKids := append(some().Kids, 77, 78, 79)
	roomOfSeps := append(some().Seps, "behind", "it", "stands more")
	wasKids, wasSeps := slices.Clone(roomOfKids), slices.Clone(roomOfSeps)
	for count := 1; count <= 5; count++ {
		for _, high := range []string{"", "abz"} {
			n := page(high)
			n.Kids, n.Seps = roomOfKids[:count], roomOfSeps[:count-1]
			kept := copied(n)
			for _, p := range append([]int{0, 129}, sizes...) {
				s, e := inner.Encode(n, p)
				inner.May(n, p)
				inner.Size(n)
				inner.Same(n, kept)
				inner.Route(n, "abd")
				for i := -1; i <= count; i++ {
					inner.Ends(n, "a", i)
				}
				got, _ := inner.Decode(s)
				if !slices.Equal(roomOfKids, wasKids) || !slices.Equal(roomOfSeps, wasSeps) || !equal(n, kept) {
					t.Fatal("what was handed in is another thing now")
				}
				if e != api.OK {
					continue
				}
				page := strings.Clone(s)
				roomOfKids[0], roomOfSeps[0] = 1, "zz"
				if s != page || !equal(got, kept) {
					t.Fatal("what was told changed with what was handed in")
				}
				copy(roomOfKids, wasKids)
				copy(roomOfSeps, wasSeps)
			}
		}
	}
}

// R5: the same call tells the same again, whatever was called between.
func TestAnswersStay(t *testing.T) {
	source := rand.New(rand.NewSource(115))
	s := encodes(t, some(), 256)
	was := strings.Clone(s)
	got, _ := inner.Decode(s)
	from, to, ends := inner.Ends(got, "low", 1)
	for range 500 {
		n := anyInner(source, 256)
		inner.Encode(n, 256)
		inner.Decode(changed(source, s))
		inner.Route(n, "abc")
		inner.Ends(n, "other", source.Intn(9))
		inner.Size(n)
	}
	if s != was || !equal(got, some()) || from != "ab" || to != "abc" || !ends {
		t.Fatal("what was told is another thing now")
	}
	encodes(t, some(), 256)
	endsAt(t, got, "low", 1, end{"ab", "abc", true})
}
