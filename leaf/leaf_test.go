package leaf

import (
	"errors"
	"math"
	"math/rand"
	"slices"
	"strings"
	"testing"
	"unsafe"

	"withy/api"
	"withy/cell"
)

// some is a leaf that may be on pages of all sizes, and has room.
func some() Leaf {
	l := Leaf{Self: 0x0203, Right: 0x0405, High: "abz", Items: pairs("ab", "x", "abc", "yz", "abcd", "", "abd", "\x00")}
	l.Items = append(l.Items, Item{"abe", cell.Value{Over: true, Len: 1000, Page: 0x0607}})
	return l
}

// great are numbers that are far from all that may be.
var great = []int{math.MinInt, math.MinInt + 1, -1 << 32, -1<<32 + 1, -1<<32 + 4095, -65536, -4096, -4095, -2, -1, 1 << 13, 1<<16 + 1, 1<<31 - 1, 1 << 31, 1<<32 - 1, 1 << 32, 1<<32 + 1, 1<<32 + 4095, 1 << 62, math.MaxInt - 1, math.MaxInt}

// noSizes are numbers of bytes that no page has.
var noSizes = append([]int{0, 1, 15, 16, 17, 64, 100, 127, 129, 192, 255, 257, 384, 511, 513, 768, 1023, 1025, 2048, 4096, 1<<32 + 128, 1<<32 + 1024}, great...)

// long answers n bytes.
func long(n int) string { return strings.Repeat("k", n) }

// may looks whether May tells that a leaf may be on pages of p bytes, and Encode a page of it, if it has room.
func may(t *testing.T, l Leaf, p int) {
	t.Helper()
	if !May(l, p) {
		t.Fatalf("of %d bytes %s may not be", p, shown(l))
	}
	if !mayBe(l, p) {
		t.Fatalf("of %d bytes the model has it that %s may not be", p, shown(l))
	}
	if sizeOf(l) <= p-16 {
		encodes(t, l, p)
	} else {
		noPage(t, l, p, api.ErrBig)
	}
}

// mayNot looks whether May tells that a leaf may not be on pages of p bytes, and Encode that there is none.
func mayNot(t *testing.T, l Leaf, p int) {
	t.Helper()
	if May(l, p) {
		t.Fatalf("of %d bytes %s may be", p, shown(l))
	}
	want := api.ErrArg
	if slices.Contains(sizes, p) {
		want = api.ErrForm
	}
	noPage(t, l, p, want)
}

// encodes looks whether Encode tells the page of a leaf that may be and has room, and Decode the leaf.
func encodes(t *testing.T, l Leaf, p int) string {
	t.Helper()
	s, e := Encode(l, p)
	if e != api.OK || s != pageOf(l, p) {
		t.Fatalf("Encode(%s, %d): %q, %d; want %q", shown(l), p, s, e, pageOf(l, p))
	}
	decodes(t, s, l)
	return s
}

// noPage looks whether Encode tells an error, and nothing beside it.
func noPage(t *testing.T, l Leaf, p int, want api.Errno) {
	t.Helper()
	if s, e := Encode(l, p); s != "" || e != want {
		t.Fatalf("Encode(%s, %d): %q, %d; want %d", shown(l), p, s, e, want)
	}
}

// decodes looks whether Decode tells a leaf.
func decodes(t *testing.T, s string, l Leaf) {
	t.Helper()
	if got, e := Decode(s); !equal(got, l) || e != api.OK {
		t.Fatalf("Decode(%q): %s, %d; want %s", s, shown(got), e, shown(l))
	}
}

// none looks whether Decode tells that s is no leaf's page, and nothing beside it.
func none(t *testing.T, s string) {
	t.Helper()
	if l, e := Decode(s); !equal(l, Leaf{}) || e != api.ErrForm {
		t.Fatalf("Decode of %d bytes, %.80q: %s, %d; want ErrForm", len(s), s, shown(l), e)
	}
}

// equal tells whether two leaves are the same, without Same.
func equal(a, b Leaf) bool {
	if a.Self != b.Self || a.Right != b.Right || a.High != b.High || len(a.Items) != len(b.Items) {
		return false
	}
	for i, x := range a.Items {
		if x != b.Items[i] {
			return false
		}
	}
	return true
}

// The chapter's example, byte by byte.
func TestExample(t *testing.T) {
	l := Leaf{Self: 1, Items: pairs("ab", "x", "ac", "y")}
	const head = "\x02\x00\x02\x00" + "\x00\x00\x00\x00" + "\x01\x00\x00\x00"
	const ahead = "\x01a\x00" + "\x01b\x00\x01x" + "\x01c\x00\x01y"
	const directory = "\x0d\x00" + "\x08\x00" + "\x03\x00"
	want := summed(head + "\x00\x00\x00\x00" + ahead + strings.Repeat("\x00", 112-len(ahead)-len(directory)) + directory)
	if s := encodes(t, l, 128); s != want {
		t.Fatalf("%q; want %q", s, want)
	}
	decodes(t, want, l)
	if n := Size(l); n != 3+5+5+6 {
		t.Fatalf("Size is %d", n)
	}
	if v, ok := Find(l, "ac"); v != (cell.Value{S: "y"}) || !ok {
		t.Fatal(v, ok)
	}
	if v, ok := Find(l, "a"); v != (cell.Value{}) || ok {
		t.Fatal(v, ok)
	}
}

// P10.1: sizes of pages that may be, and those that may not.
func TestMaySizes(t *testing.T) {
	for _, l := range []Leaf{some(), {Self: 1}, {Self: 4095, Items: pairs("", "")}} {
		for p := -1100; p <= 2200; p++ {
			if slices.Contains(sizes, p) {
				may(t, l, p)
			} else {
				mayNot(t, l, p)
			}
		}
		for _, p := range noSizes {
			mayNot(t, l, p)
		}
	}
}

// P10.1: each number of its own and of the page at its right, from below the least to above the greatest.
func TestMayNumbers(t *testing.T) {
	for _, p := range sizes {
		for _, n := range append([]int{-300, -1, 0, 1, 2, 3, 255, 256, 4094, 4095, 4096, 4097, 8191}, great...) {
			for _, l := range []Leaf{{Self: n}, {Self: n, Right: 7, High: "h"}, {Self: n, Items: pairs("a", "b")}} {
				if n >= 1 && n <= 4095 {
					may(t, l, p)
				} else {
					mayNot(t, l, p)
				}
			}
			l := Leaf{Self: 9, Right: n, High: "h", Items: pairs("a", "b")}
			if n >= 1 && n <= 4095 {
				may(t, l, p)
			} else {
				mayNot(t, l, p)
			}
			l.Self = n
			mayNot(t, l, p) // Right is Self, or neither may be
			l.High = ""
			mayNot(t, l, p)
		}
		for _, n := range []int{1, 9, 4095} {
			mayNot(t, Leaf{Self: n, Right: n, High: "h"}, p)
			may(t, Leaf{Self: n, Right: n ^ 2, High: "h"}, p)
		}
	}
	for n := -10; n <= 4200; n++ {
		if got := May(Leaf{Self: n}, 128); got != (1 <= n && n <= 4095) {
			t.Fatalf("Self %d: %t", n, got)
		}
		if got := May(Leaf{Self: 77, Right: n, High: "h"}, 128); got != (1 <= n && n <= 4095 && n != 77) {
			t.Fatalf("Right %d: %t", n, got)
		}
	}
}

// P10.1: High is empty just if Right is 0.
func TestMayHigh(t *testing.T) {
	for _, p := range sizes {
		for _, items := range [][]Item{nil, {}, pairs("", ""), pairs("", "a", "g", "b")} {
			may(t, Leaf{Self: 1, Items: items}, p)
			may(t, Leaf{Self: 1, Right: 2, High: "h", Items: items}, p)
			mayNot(t, Leaf{Self: 1, Right: 2, Items: items}, p)
			for _, high := range []string{"h", "\x00", "\xff", long(p / 8), long(p/8 + 1)} {
				mayNot(t, Leaf{Self: 1, High: high, Items: items}, p)
			}
		}
		// Without keys, or above the empty one alone, even the least may be High.
		may(t, Leaf{Self: 1, Right: 2, High: "\x00"}, p)
		may(t, Leaf{Self: 1, Right: 2, High: "\x00", Items: pairs("", "v")}, p)
	}
}

// P10.1: High and keys of each length.
func TestMayLengths(t *testing.T) {
	for _, p := range sizes {
		for n := range 2*p/8 + 3 {
			check := mayNot
			if n <= p/8 {
				check = may
			}
			check(t, Leaf{Self: 1, Items: pairs(long(n), "v")}, p)
			check(t, Leaf{Self: 1, Right: 2, High: "l", Items: pairs(long(n), "v")}, p)
			if n > 0 {
				check(t, Leaf{Self: 1, Right: 2, High: long(n)}, p)
				check(t, Leaf{Self: 1, Right: 2, High: long(n), Items: pairs("a", "v")}, p)
				check(t, Leaf{Self: 1, Items: pairs("", "", "a", "v", long(n), "v", "kl", "v", "l", "v")}, p)
				check(t, Leaf{Self: 1, Items: pairs("a", "v", "b", "v", long(n), "v")}, p)
			}
		}
		for _, n := range []int{128, 129, 1024, 4096, 1 << 16, 1 << 20} {
			if n > p/8 {
				mayNot(t, Leaf{Self: 1, Items: pairs(long(n), "v")}, p)
				mayNot(t, Leaf{Self: 1, Right: 2, High: long(n)}, p)
			}
		}
	}
}

// P10.1: keys that rise, that stand twice, that are turned round, that are High, or above it.
func TestMayRise(t *testing.T) {
	rising := []string{"", "\x00", "\x00\x00", "\x00\x01", "\x01", "a", "a\x00", "aa", "ab", "b", "\x7f", "\x80", "\xc3\xa4", "\xff", "\xff\xff"}
	for i, a := range rising {
		for j, b := range rising {
			two := Leaf{Self: 1, Items: pairs(a, "v", b, "w")}
			last := Leaf{Self: 1, Items: pairs("", "", "\x00", "v", a+"\xff", "v", b+"\xff", "w")}
			under := Leaf{Self: 1, Right: 2, High: b, Items: pairs(a, "v")}
			check := mayNot
			if i < j {
				check = may
			}
			for _, p := range sizes {
				check(t, two, p)
				check(t, under, p)
				if a+"\xff" < b+"\xff" {
					may(t, last, p)
				} else {
					mayNot(t, last, p)
				}
			}
		}
	}
	for _, p := range sizes {
		for i := range rising {
			for j := range i {
				all := Leaf{Self: 1}
				for _, key := range rising {
					all.Items = append(all.Items, pairs(key, "")...)
				}
				may(t, all, p)
				all.Items[i], all.Items[j] = all.Items[j], all.Items[i]
				mayNot(t, all, p)
				all.Items[i] = all.Items[j]
				mayNot(t, all, p)
			}
			all := Leaf{Self: 1, Right: 2, High: rising[i]}
			for _, key := range rising {
				all.Items = append(all.Items, pairs(key, "")...)
			}
			mayNot(t, all, p)
			all.Items = all.Items[:i]
			if i > 0 {
				may(t, all, p)
			}
		}
	}
}

// P10.1: values that may not be, and values that may be here or over on pages of some sizes alone.
func TestMayValues(t *testing.T) {
	bad := []cell.Value{{Len: 1}, {Page: 1}, {S: "a", Len: 1}, {S: "a", Page: 1}, {Len: 300}, {Len: 300, Page: 1}, {S: "a", Len: 300, Page: 1}, {Over: true},
		{Over: true, Len: 300}, {Over: true, Page: 1}, {Over: true, Len: 4097, Page: 1}, {Over: true, Len: 300, Page: 4096}, {Over: true, S: "a", Len: 300, Page: 1},
		{Over: true, S: long(300), Len: 300, Page: 1}, {Over: true, S: long(300)}, {Over: true, S: long(300), Page: 1}, {S: long(300)}, {S: long(4096)}, {S: long(1 << 16)}}
	for _, n := range great {
		bad = append(bad, cell.Value{Len: n}, cell.Value{Page: n}, cell.Value{Over: true, Len: n, Page: 1}, cell.Value{Over: true, Len: 300, Page: n})
	}
	for _, p := range sizes {
		for _, v := range bad {
			mayNot(t, Leaf{Self: 1, Items: []Item{{"a", v}}}, p)
			mayNot(t, Leaf{Self: 1, Items: []Item{{"a", v}, {"b", cell.Value{}}}}, p)
			mayNot(t, Leaf{Self: 1, Right: 2, High: "x", Items: []Item{{"a", cell.Value{}}, {"b", v}}}, p)
		}
		for n := range 4200 {
			here, over := cell.Value{S: long(n)}, cell.Value{Over: true, Len: n, Page: 5}
			check, other := mayNot, mayNot
			if n <= p/4 {
				check = may
			} else if n <= 4096 {
				other = may
			}
			if n < 300 || n > 4090 || n%64 < 2 {
				check(t, Leaf{Self: 1, Items: []Item{{"a", here}}}, p)
				other(t, Leaf{Self: 1, Items: []Item{{"a", over}}}, p)
				check(t, Leaf{Self: 1, Items: []Item{{"a", cell.Value{}}, {"b", here}}}, p)
				other(t, Leaf{Self: 1, Items: []Item{{"a", cell.Value{}}, {"b", over}}}, p)
			}
		}
		for _, page := range []int{1, 2, 255, 256, 4094, 4095} {
			may(t, Leaf{Self: 1, Items: []Item{{"", cell.Value{Over: true, Len: p/4 + 1, Page: page}}}}, p)
		}
	}
}

// P10.1: leaves that are unlike in just one thing are not the same.
func TestSame(t *testing.T) {
	change := []func(l *Leaf){
		func(l *Leaf) { l.Self++ },
		func(l *Leaf) { l.Self = 0 },
		func(l *Leaf) { l.Right++ },
		func(l *Leaf) { l.Right = 0 },
		func(l *Leaf) { l.High += "\x00" },
		func(l *Leaf) { l.High = "" },
		func(l *Leaf) { l.Items = l.Items[1:] },
		func(l *Leaf) { l.Items = l.Items[:len(l.Items)-1] },
		func(l *Leaf) { l.Items = nil },
		func(l *Leaf) { l.Items = append(l.Items, Item{}) },
		func(l *Leaf) { l.Items = append(l.Items, l.Items[4]) },
		func(l *Leaf) { slices.Reverse(l.Items) },
	}
	for i := range some().Items {
		change = append(change,
			func(l *Leaf) { l.Items[i].Key += "\x00" },
			func(l *Leaf) { l.Items[i].V.S += "\x00" },
			func(l *Leaf) { l.Items[i].V.Over = !l.Items[i].V.Over },
			func(l *Leaf) { l.Items[i].V.Len++ },
			func(l *Leaf) { l.Items[i].V.Page-- },
		)
	}
	leaves := []Leaf{some()}
	for _, f := range change {
		l := some()
		f(&l)
		leaves = append(leaves, l)
	}
	for i, a := range leaves {
		for j, b := range leaves {
			if got, want := Same(a, b), i == j; got != want {
				t.Fatalf("Same(%s, %s) is %t", shown(a), shown(b), got)
			}
		}
		if !Same(a, copied(a)) {
			t.Fatalf("%s is not the same as its copy", shown(a))
		}
	}
	for _, a := range []Leaf{{}, {Items: []Item{}}, {Items: make([]Item, 0, 9)}, {Items: pairs("a", "b")[:0]}} {
		for _, b := range []Leaf{{}, {Items: []Item{}}, {Items: make([]Item, 0, 3)}} {
			if !Same(a, b) || Same(a, Leaf{Items: make([]Item, 1)}) || Same(Leaf{Items: make([]Item, 1)}, a) {
				t.Fatalf("nil items and none: %s, %s", shown(a), shown(b))
			}
		}
	}
}

// P10.1: how many bytes leaves need, written out; and of leaves that no page has room for.
func TestSize(t *testing.T) {
	for _, x := range []struct {
		l    Leaf
		want int
	}{
		{Leaf{Self: 1}, 4},
		{Leaf{Self: 1, Right: 2, High: "h"}, 5},
		{Leaf{Self: 1, Right: 2, High: long(128)}, 132},
		{Leaf{Self: 1, Items: pairs("", "")}, 9},
		{Leaf{Self: 1, Items: pairs("abc", "")}, 12},
		{Leaf{Self: 1, Items: pairs("abc", "v")}, 13},
		{Leaf{Self: 1, Items: pairs("abc", "v", "abd", "v")}, 6 + 2*7},
		{Leaf{Self: 1, Items: pairs("abc", "v", "b", "v")}, 4 + 9 + 7},
		{Leaf{Self: 1, Items: pairs("", "v", "abc", "v")}, 4 + 6 + 9},
		{Leaf{Self: 1, Items: pairs("a", strings.Repeat("v", 240))}, 5 + 245},
		{Leaf{Self: 1, Items: pairs("a", strings.Repeat("v", 241))}, 5 + 247},
		{Leaf{Self: 1, Items: pairs("a", strings.Repeat("v", 256))}, 5 + 262},
		{Leaf{Self: 1, Items: []Item{{"a", cell.Value{Over: true, Len: 240, Page: 9}}}}, 5 + 9},
		{Leaf{Self: 1, Items: []Item{{"a", cell.Value{Over: true, Len: 241, Page: 9}}}}, 5 + 10},
		{Leaf{Self: 1, Items: []Item{{"a", cell.Value{Over: true, Len: 2288, Page: 4095}}}}, 5 + 11},
		{Leaf{Self: 1, Items: []Item{{"a", cell.Value{Over: true, Len: 4096, Page: 1}}}}, 5 + 11},
		{some(), 7 + 2 + (4 + 2) + (6 + 2) + (5 + 2) + (5 + 2) + (9 + 2)},
	} {
		if n := Size(x.l); n != x.want || sizeOf(x.l) != x.want {
			t.Fatalf("Size(%s): %d; want %d", shown(x.l), n, x.want)
		}
	}
	many := Leaf{Self: 1}
	for i := range 70000 {
		many.Items = append(many.Items, Item{string([]byte{byte(i >> 16), byte(i >> 8), byte(i)}), cell.Value{S: "v"}})
	}
	for _, x := range []struct{ count, common int }{{1, 3}, {2, 2}, {256, 2}, {257, 1}, {65536, 1}, {65537, 0}, {70000, 0}} {
		l := Leaf{Self: 1, Items: many.Items[:x.count]}
		if n, want := Size(l), 4+x.common+x.count*(9-x.common); n != want {
			t.Fatalf("%d items: Size is %d; want %d", x.count, n, want)
		}
		for _, p := range sizes {
			if x.count > 2 {
				noPage(t, l, p, api.ErrBig)
			}
		}
	}
}

// P10.2, R2: of several things that are wrong the page's size is told first, then the leaf, then that it has no room.
func TestEncodeErrorsInOrder(t *testing.T) {
	bad, big := Leaf{}, Leaf{Self: 1}
	for i := range 300 {
		big.Items = append(big.Items, Item{string([]byte{byte(i >> 8), byte(i)}), cell.Value{S: "value"}})
	}
	both := copied(big)
	both.Items[299].Key = ""
	for _, p := range noSizes {
		for _, l := range []Leaf{some(), bad, big, both} {
			noPage(t, l, p, api.ErrArg)
		}
	}
	for _, p := range sizes {
		noPage(t, bad, p, api.ErrForm)
		noPage(t, both, p, api.ErrForm)
		noPage(t, big, p, api.ErrBig)
		for _, f := range []func(l *Leaf){
			func(l *Leaf) { l.Self = 0 },
			func(l *Leaf) { l.Right = 1 },
			func(l *Leaf) { l.High = "\xff" },
			func(l *Leaf) { l.Items[7].V.Len = 1 },
			func(l *Leaf) { l.Items[299].Key = long(129) },
		} {
			l := copied(big)
			f(&l)
			noPage(t, l, p, api.ErrForm)
		}
	}
}

// sized answers a leaf whose Size is a given one, with a High of some bytes; each value is of at most 32 bytes, as pages of all sizes have them.
func sized(size int, high string) Leaf {
	l := Leaf{Self: 1, High: high}
	if high != "" {
		l.Right = 2
	}
	left := size - 5 - len(high)
	for n := (left + 37) / 38; n > 0; n-- {
		value := long(min(32, left-6*n))
		l.Items = append(l.Items, Item{"a" + string([]byte{byte(len(l.Items))}), cell.Value{S: value}})
		left -= 6 + len(value)
	}
	return l
}

// P10.2: room that is just enough, and more, and one byte less, and less than that.
func TestEncodeRoom(t *testing.T) {
	for _, p := range sizes {
		for size := p - 16 - 40; size <= p-16+200; size++ {
			for _, high := range []string{"", "b", long(p / 8)} {
				l := sized(size, high)
				if n := Size(l); n != size || sizeOf(l) != size {
					t.Fatalf("Size(%s): %d; want %d", shown(l), n, size)
				}
				if size <= p-16 {
					encodes(t, l, p)
				} else {
					noPage(t, l, p, api.ErrBig)
				}
			}
		}
		// As many items as there can be: the least cells of all but the first keys, of one byte each.
		l := Leaf{Self: 1, Items: pairs("", "")}
		for i := 0; len(l.Items) < 256 && sizeOf(l)+6 <= p-16; i++ {
			l.Items = append(l.Items, pairs(string([]byte{byte(i)}), "")...)
		}
		encodes(t, l, p)
	}
}

// P10.2: the bytes of pages, place by place.
func TestEncodePlaces(t *testing.T) {
	want := "\x02\x00\x05\x00" + "\x05\x04\x00\x00" + "\x03\x02\x00\x00" + "\x00\x00\x00\x00" +
		"\x02ab\x03abz" + "\x00\x00\x01x" + "\x01c\x00\x02yz" + "\x02cd\x00\x00" + "\x01d\x00\x01\x00" + "\x01e\x01\xf3\xf8\x07\x06\x00\x00"
	const directory = "\x24\x00" + "\x1b\x00" + "\x16\x00" + "\x11\x00" + "\x0b\x00" + "\x07\x00"
	for _, p := range sizes {
		s := encodes(t, some(), p)
		if full := summed(want + strings.Repeat("\x00", p-len(want)-len(directory)) + directory); s != full {
			t.Fatalf("%q; want %q", s, full)
		}
		s = encodes(t, Leaf{Self: 4095}, p)
		if full := summed("\x02\x00\x00\x00\x00\x00\x00\x00\xff\x0f" + strings.Repeat("\x00", p-12) + "\x02\x00"); s != full {
			t.Fatalf("%q; want %q", s, full)
		}
		s = encodes(t, Leaf{Self: 1, Right: 4095, High: "\x00"}, p)
		if full := summed("\x02\x00\x00\x00\xff\x0f\x00\x00\x01\x00\x00\x00\x00\x00\x00\x00\x00\x01" + strings.Repeat("\x00", p-20) + "\x03\x00"); s != full {
			t.Fatalf("%q; want %q", s, full)
		}
		// One key alone is all of it what the keys have in common.
		s = encodes(t, Leaf{Self: 1, Items: pairs("key", "v")}, p)
		if s[16:25] != "\x03key\x00\x00\x00\x01v" || s[p-4:] != "\x09\x00\x05\x00" {
			t.Fatalf("%q", s)
		}
	}
}

// laid answers the page of leaf l, but for its fixed bytes and its cells.
func laid(p int, l Leaf, fixed string, cells ...string) string {
	return sealed(2, 0, len(cells), l.Right, l.Self, bodyOf(p-16, fixed, cells))
}

// P10.2: numbers of bytes that no page has, and pages that are cut short, or have bytes behind.
func TestDecodeSizes(t *testing.T) {
	none(t, "")
	for _, p := range sizes {
		s := encodes(t, some(), p)
		for n := range len(s) {
			none(t, s[:n])
			none(t, s[n+1:])
		}
		for _, n := range []int{1, 2, 64, 127, 129, 255, 257, 1024, 4096} {
			none(t, s+strings.Repeat("\x00", n))
			none(t, strings.Repeat("\x00", n)+s)
		}
		none(t, s+s)
		none(t, strings.Repeat("\x00", p))
		none(t, strings.Repeat("\xff", p))
	}
	for n := range 2100 {
		none(t, strings.Repeat("\x00", n))
		if n >= 20 && !slices.Contains(sizes, n) {
			// All is right but for the size.
			none(t, sealed(2, 0, 0, 0, 1, "\x00\x00"+strings.Repeat("\x00", n-20)+"\x02\x00"))
		}
	}
}

// P10.2: pages in which any one byte is another one, with the sum as it was, and with the one that they ought to have.
func TestDecodeOtherBytes(t *testing.T) {
	decoded := 0
	for _, p := range sizes {
		step := p / 128 * p / 128
		for _, l := range []Leaf{some(), {Self: 1}, {Self: 5, Items: pairs("ab", "x", "ac", "y")}} {
			s := encodes(t, l, p)
			for at := range p {
				for change := 1; change < 256; change += step {
					out := []byte(s)
					out[at] ^= byte(change)
					none(t, string(out))
					again := summed(string(out))
					if again == s {
						continue
					}
					got, e := Decode(again)
					if want, wantErrno := decodeOf(again); !equal(got, want) || e != wantErrno {
						t.Fatalf("byte %d of %d by %d: %s, %d; want %s, %d", at, p, change, shown(got), e, shown(want), wantErrno)
					}
					if e == api.OK {
						decoded++
					}
				}
			}
		}
	}
	if decoded < 1000 {
		t.Fatalf("no more than %d pages decoded", decoded)
	}
}

// P10.2: pages sealed with another Kind, Level or Count, or page at the right, or number of its own.
func TestDecodeHeads(t *testing.T) {
	for _, p := range sizes {
		l := some()
		body := encodes(t, l, p)[16:]
		for n := range 256 {
			if n != 2 {
				none(t, sealed(n, 0, 5, l.Right, l.Self, body))
			}
			if n != 0 {
				none(t, sealed(2, n, 5, l.Right, l.Self, body))
			}
		}
		for n := range 65536 {
			if n != 5 && (p == 128 || n < 1200 || n%997 == 0 || n > 65500) {
				none(t, sealed(2, 0, n, l.Right, l.Self, body))
			}
		}
		for _, n := range []int{0, 1, 2, 3, l.Self, l.Right, 4094, 4095, 4096, 4097, 1 << 16, 1<<16 + 1, 1<<31 + 1, 1<<32 - 1} {
			right, self := Leaf{l.Self, n, l.High, l.Items}, Leaf{n, l.Right, l.High, l.Items}
			if n == 0 || n == l.Self || n > 4095 {
				none(t, sealed(2, 0, 5, n, l.Self, body))
			} else {
				decodes(t, sealed(2, 0, 5, n, l.Self, body), right)
			}
			if n == 0 || n == l.Right || n > 4095 {
				none(t, sealed(2, 0, 5, l.Right, n, body))
			} else {
				decodes(t, sealed(2, 0, 5, l.Right, n, body), self)
			}
		}
		// Without High there is no page at the right.
		last := Leaf{Self: 3, Items: l.Items}
		body = encodes(t, last, p)[16:]
		for _, n := range []int{1, 2, 3, 4095} {
			none(t, sealed(2, 0, 5, n, 3, body))
		}
	}
}

// P10.2: fixed bytes that tell more or less than what the keys have in common, that are cut short, or have bytes behind.
func TestDecodeFixed(t *testing.T) {
	for _, p := range sizes {
		one, two := Leaf{Self: 1, Items: pairs("abc", "x")}, Leaf{Self: 1, Items: pairs("abc", "x", "abd", "y")}
		for _, l := range []Leaf{one, two} {
			for n := range len(commonOf(l)) + 1 {
				var cells []string
				for _, x := range l.Items {
					cells = append(cells, cellOf(x.Key[n:], x.V))
				}
				s := laid(p, l, textOf("abc"[:n])+"\x00", cells...)
				if n == len(commonOf(l)) {
					decodes(t, s, l)
				} else {
					none(t, s)
				}
			}
		}
		none(t, laid(p, one, "\x01a\x00"))   // of no keys they have something in common
		none(t, laid(p, one, "\x03abc\x00")) // the same
		decodes(t, laid(p, one, "\x00\x00"), Leaf{Self: 1})
		cells := cellsOf(two)
		decodes(t, laid(p, two, "\x02ab\x00", cells...), two)
		for _, fixed := range []string{"", "\x02", "\x02a", "\x02ab", "\x03ab\x00", "\x01ab\x00", "\x02ab\x00\x00", "\x02ab\x00a", "\x02ab\x01", "\x02ab\x01b", "\x02ab\x02b", "\x00\x02ab\x00", "ab", "\xfa\x00\x00\x02ab\x00", "\x02ab\xfa\x00\x00\x00",
			"\xff\x00\x00\x00\x00\x00\x00\x00\x02ab\x00", "\x02ab\xff\x00\x00\x00\x00\x00\x00\x00\x00"} {
			none(t, laid(p, two, fixed, cells...))
		}
	}
}

// P10.2: lengths in the fixed bytes that are above what follows, each of them, up to the greatest.
func TestDecodeLengths(t *testing.T) {
	numbers := []string{"\xff\xff\xff\xff\xff\xff\xff\xff\xff", "\xff\x80\x00\x00\x00\x00\x00\x00\x00", "\xff\x7f\xff\xff\xff\xff\xff\xff\xff", "\xff\x80\x00\x00\x00\x00\x00\x00\x01", "\xff\xff\xff\xff\xff\xff\xff\xff\x80",
		"\xfe\x01\x00\x00\x00\x00\x00\x00", "\xfd\x01\x00\x00\x00\x00\x00", "\xfc\x01\x00\x00\x00\x00", "\xfc\x01\x00\x00\x00\x01", "\xfc\xff\xff\xff\xff", "\xfb\x80\x00\x00\x00", "\xfb\x7f\xff\xff\xff", "\xfa\x01\x08\xf0", "\xf9\xff\xff"}
	for n := range 1100 {
		numbers = append(numbers, numberOf(n))
	}
	for _, p := range sizes {
		for _, number := range numbers {
			for _, fixed := range []string{number, number + "\x00", "\x00" + number, "\x01a" + number, number + "a", number + number} {
				for _, count := range []int{0, 1} {
					body := fixed + strings.Repeat("\x00", p-16-2-len(fixed)) + string([]byte{byte(len(fixed)), 0})
					s := sealed(2, 0, count, 0, 1, body)
					got, e := Decode(s)
					if want, wantErrno := decodeOf(s); !equal(got, want) || e != wantErrno {
						t.Fatalf("fixed bytes %q, %d bytes: %s, %d; want %s, %d", fixed, p, shown(got), e, shown(want), wantErrno)
					}
				}
			}
		}
		// At the end of the body: a length of which not all bytes stand there.
		for _, end := range []string{"\xf1", "\xff", "\xfa\x01\x08", "\xff\xff\xff\xff\xff\xff\xff\xff"} {
			n := p - 16 - len(end) - len(numberOf(p))
			if n > 240 {
				n--
			}
			none(t, sealed(2, 0, 0, 0, 1, (numberOf(n) + strings.Repeat("a", p))[:p-16-len(end)]+end))
		}
	}
}

// P10.2: cells that are none, and directories that are not the cells'.
func TestDecodeCells(t *testing.T) {
	l := Leaf{Self: 1, Items: pairs("ab", "x", "ac", "y")}
	for _, p := range sizes {
		good := "\x01b\x00\x01x"
		last := "\x01c\x00\x01y"
		decodes(t, laid(p, l, "\x01a\x00", good, last), l)
		for _, bad := range []string{"", "\x00", "\x01", "\x01b", "\x01b\x00", "\x01b\x00\x01", "\x01b\x00\x02x", "\x01b\x00\x01xx", "\x01b\x00\x01x\x00", "\x01b\x02\x01x", "\x01b\xff\x01x", "\x02b\x00\x01x", "\x00b\x00\x01x",
			"\x01b\x01\x01x", "\x01b\x01\x00\x01\x00\x00\x00", "\x01b\x01\xf9\x07\x11\x01\x00\x00\x00", "\x01b\x01\xf9\x07\x10\x00\x00\x00\x00", "\x01b\x01\xf9\x07\x10\x00\x10\x00\x00", "\x01b\x01\xf9\x07\x10\x01\x00\x00",
			"\x01b\x01\x01\x01\x00\x00\x00", "\xfa\x00\x00\x01b\x00\x01x", "\x01b\x00\xfa\x00\x00\x01x", "\x01b\x00\xff\xff\xff\xff\xff\xff\xff\xff\xff", "\xff\xff\xff\xff\xff\xff\xff\xff\xff", "\x05\x00\x00\x00\x00"} {
			none(t, laid(p, l, "\x01a\x00", bad, last))
			none(t, laid(p, l, "\x01a\x00", good, bad))
			none(t, laid(p, l, "\x02ab\x00", bad))
		}
		over := "\x01b\x01\xf9\x07\x10\x01\x00\x00\x00"
		decodes(t, laid(p, l, "\x01a\x00", over, last), Leaf{Self: 1, Items: []Item{{"ab", cell.Value{Over: true, Len: 4096, Page: 1}}, l.Items[1]}})
		body := bodyOf(p-16, "\x01a\x00", []string{good, last})
		for _, f := range []func(out []byte){
			func(out []byte) { out[len(out)-2]++ },                       // the first cell begins later
			func(out []byte) { out[len(out)-4]++ },                       // the first one ends later
			func(out []byte) { out[len(out)-6]++ },                       // the last one ends later
			func(out []byte) { out[len(out)-6]-- },                       // the last one ends earlier
			func(out []byte) { out[len(out)-1]++ },                       // far beyond
			func(out []byte) { out[len(out)-3] = 255 },                   // far beyond
			func(out []byte) { out[len(out)-5] = 255 },                   // far beyond
			func(out []byte) { out[13] = 1 },                             // not 0, behind the cells
			func(out []byte) { out[len(out)-7] = 1 },                     // not 0, ahead of the directory
			func(out []byte) { out[len(out)-2], out[len(out)-4] = 8, 3 }, // turned round
		} {
			out := []byte(body)
			f(out)
			none(t, sealed(2, 0, 2, 0, 1, string(out)))
		}
	}
}

// P10.2: pages of leaves that may not be, with all else as the chapter has it.
func TestDecodeLeavesThatMayNotBe(t *testing.T) {
	for _, p := range sizes {
		for what, l := range map[string]Leaf{
			"a key twice":                       {Self: 1, Items: pairs("a", "", "a", "")},
			"a key twice, and others":           {Self: 1, Items: pairs("", "", "a", "", "a", "", "b", "")},
			"the empty key twice":               {Self: 1, Items: pairs("", "", "", "")},
			"keys turned round":                 {Self: 1, Items: pairs("b", "", "a", "")},
			"keys turned round at the end":      {Self: 1, Items: pairs("a", "", "c", "", "b", "")},
			"a key ahead of what it begins":     {Self: 1, Items: pairs("ab", "", "a", "")},
			"the empty key behind":              {Self: 1, Items: pairs("a", "", "", "")},
			"bytes are not below 0":             {Self: 1, Items: pairs("\x80", "", "\x7f", "")},
			"High is the last key":              {Self: 1, Right: 2, High: "b", Items: pairs("a", "", "b", "")},
			"High is below the last key":        {Self: 1, Right: 2, High: "b", Items: pairs("a", "", "ba", "")},
			"High is below all keys":            {Self: 1, Right: 2, High: "A", Items: pairs("a", "", "b", "")},
			"High is the only key":              {Self: 1, Right: 2, High: "b", Items: pairs("b", "")},
			"High, and no page at the right":    {Self: 1, High: "b", Items: pairs("a", "")},
			"a page at the right, and no High":  {Self: 1, Right: 2, Items: pairs("a", "")},
			"a page at the right, without keys": {Self: 1, Right: 2},
			"itself at the right":               {Self: 1, Right: 1, High: "b", Items: pairs("a", "")},
			"number 0":                          {Self: 0, Right: 1, High: "b", Items: pairs("a", "")},
			"number 4096":                       {Self: 4096, Right: 1, High: "b", Items: pairs("a", "")},
			"4096 at the right":                 {Self: 1, Right: 4096, High: "b", Items: pairs("a", "")},
			"a long key":                        {Self: 1, Items: pairs(long(p/8+1), "")},
			"a long key behind one":             {Self: 1, Items: pairs("a", "", long(p/8+1), "")},
			"a long key of two parts":           {Self: 1, Items: pairs(long(p/8), "", long(p/8)+"a", "")},
			"a long High":                       {Self: 1, Right: 2, High: long(p/8 + 1)},
			"a long value that is here":         {Self: 1, Items: pairs("a", long(p/4+1))},
			"a long value behind a short one":   {Self: 1, Items: pairs("a", "", "b", long(p/4+1))},
			"a short value that is over":        {Self: 1, Items: []Item{{"a", cell.Value{Over: true, Len: p / 4, Page: 5}}}},
			"a value of one byte that is over":  {Self: 1, Items: []Item{{"a", cell.Value{Over: true, Len: 1, Page: 5}}}},
			"a value of none that is over":      {Self: 1, Items: []Item{{"a", cell.Value{Over: true, Page: 5}}}},
			"a value of 4097":                   {Self: 1, Items: []Item{{"a", cell.Value{Over: true, Len: 4097, Page: 5}}}},
			"a value on page 0":                 {Self: 1, Items: []Item{{"a", cell.Value{Over: true, Len: 300}}}},
			"a value on page 4096":              {Self: 1, Items: []Item{{"a", cell.Value{Over: true, Len: 300, Page: 4096}}}},
		} {
			s := pageOf(l, p)
			if got, e := Decode(s); !equal(got, Leaf{}) || e != api.ErrForm {
				t.Fatalf("%d bytes, %s: %s, %d; want ErrForm", p, what, shown(got), e)
			}
			mayNot(t, l, p)
		}
	}
}

// P10.2: a leaf's page of one size is none at another one, even if its keys and values may be there.
func TestDecodeByItsSize(t *testing.T) {
	for _, p := range sizes {
		for _, q := range sizes {
			l := Leaf{Self: 1, Items: []Item{{long(p / 8), cell.Value{S: long(p / 4)}}, {"l", cell.Value{Over: true, Len: p/4 + 1, Page: 7}}}}
			if sizeOf(l) > q-16 {
				noPage(t, l, q, map[bool]api.Errno{true: api.ErrBig, false: api.ErrForm}[p == q])
			} else if p == q {
				may(t, l, q)
			} else {
				mayNot(t, l, q)
				none(t, pageOf(l, q))
			}
		}
	}
}

// P10.3: the value of each key, and none of all others.
func TestFind(t *testing.T) {
	keys := []string{"\x00", "a", "a\x00", "ab", "abc", "b", "\xfe", "\xfe\xff"}
	for mask := range 1 << len(keys) {
		l := Leaf{Self: 1}
		for i, key := range keys {
			if mask>>i&1 == 1 {
				l.Items = append(l.Items, Item{key, cell.Value{S: "v" + key}})
			}
		}
		for i, key := range keys {
			finds(t, l, key, cell.Value{S: "v" + key}, mask>>i&1 == 1)
			finds(t, l, key+"\x01", cell.Value{}, false)
		}
		for _, key := range []string{"", "\x00\x00", "A", "aa", "abb", "abcd", "c", "\xfd", "\xff", long(1000)} {
			finds(t, l, key, cell.Value{}, false)
		}
	}
}

// finds looks whether Find tells a value, or none and nothing beside it.
func finds(t *testing.T, l Leaf, key string, want cell.Value, there bool) {
	t.Helper()
	if !there {
		want = cell.Value{}
	}
	if v, ok := Find(l, key); v != want || ok != there {
		t.Fatalf("Find(%s, %.20q): %v, %t; want %v, %t", shown(l), key, v, ok, want, there)
	}
}

// P10.3: the empty key, values that are over, leaves without items, and leaves whose keys don't rise.
func TestFindOthers(t *testing.T) {
	for _, l := range []Leaf{{}, {Self: 1}, {Self: 1, Items: []Item{}}, {Self: 1, Right: 2, High: "h"}} {
		for _, key := range []string{"", "a", "h", "\xff"} {
			finds(t, l, key, cell.Value{}, false)
		}
	}
	over := cell.Value{Over: true, Len: 300, Page: 7}
	l := Leaf{Self: 1, Right: 2, High: "x", Items: []Item{{"", over}, {"a", cell.Value{}}, {"b", cell.Value{S: "v"}}}}
	finds(t, l, "", over, true)
	finds(t, l, "a", cell.Value{}, true)
	finds(t, l, "b", cell.Value{S: "v"}, true)
	finds(t, l, "x", cell.Value{}, false)
	finds(t, l, "v", cell.Value{}, false)
	l = Leaf{Items: pairs("c", "1", "a", "2", "", "3", "b", "4")}
	for _, x := range l.Items {
		finds(t, l, x.Key, x.V, true)
	}
	finds(t, l, "d", cell.Value{}, false)
	finds(t, l, "aa", cell.Value{}, false)
	for _, x := range some().Items {
		finds(t, some(), x.Key, x.V, true)
	}
}

// P10.4: a leaf of one item that may be, or of none, always has room: with keys, Highs and values of each length, and the longest of all.
func TestOneItemHasRoom(t *testing.T) {
	for _, p := range sizes {
		for _, high := range []int{0, 1, p/8 - 1, p / 8} {
			l := Leaf{Self: 4095, High: strings.Repeat("z", high)}
			if high > 0 {
				l.Right = 4094
			}
			encodes(t, l, p)
			for _, key := range []int{0, 1, p/8 - 1, p / 8} {
				for n := range p/4 + 1 {
					l.Items = pairs(long(key), long(n))
					encodes(t, l, p)
				}
				for _, n := range []int{p/4 + 1, 241, 2287, 2288, 4095, 4096} {
					if n > p/4 {
						l.Items = []Item{{long(key), cell.Value{Over: true, Len: n, Page: 4095}}}
						encodes(t, l, p)
					}
				}
			}
		}
	}
}

// P10.4: unlike leaves have unlike pages, of all leaves of a few keys and values.
func TestUnlikePages(t *testing.T) {
	keys := []string{"", "a", "ab", "b", "bb"}
	values := []cell.Value{{}, {S: "a"}, {S: "\x00"}, {Over: true, Len: 257, Page: 1}, {Over: true, Len: 257, Page: 256}}
	ends := []Leaf{{Self: 1}, {Self: 2}, {Self: 1, Right: 2, High: "c"}, {Self: 1, Right: 2, High: "cb"}, {Self: 1, Right: 3, High: "c"}}
	choices := 1
	for range keys {
		choices *= len(values) + 1
	}
	seen := map[string]bool{}
	for n := 0; n < choices; n++ {
		var items []Item
		for i, rest := 0, n; i < len(keys); i, rest = i+1, rest/(len(values)+1) {
			if v := rest % (len(values) + 1); v > 0 {
				items = append(items, Item{keys[i], values[v-1]})
			}
		}
		for _, l := range ends {
			l.Items = items
			s := encodes(t, l, 128)
			if seen[s] {
				t.Fatalf("the page of %s is another one's too", shown(l))
			}
			seen[s] = true
		}
	}
}

// P10.1 to P10.4: leaves of chance, some of which may not be, or have no room, held against the chapter's words.
func TestEncodeOfChance(t *testing.T) {
	source := rand.New(rand.NewSource(102))
	found := map[api.Errno]int{}
	for range 12000 {
		p := sizes[source.Intn(4)]
		l := anyLeaf(source, p)
		if source.Intn(3) == 0 {
			spoil(source, &l)
		}
		if source.Intn(20) == 0 {
			p = noSizes[source.Intn(len(noSizes))]
		}
		s, e := Encode(l, p)
		if want, wantErrno := encodeOf(l, p); s != want || e != wantErrno || May(l, p) != mayBe(l, p) {
			t.Fatalf("Encode(%s, %d): %q, %d; want %q, %d", shown(l), p, s, e, want, wantErrno)
		}
		found[e]++
		if e == api.OK {
			decodes(t, s, l)
			for _, x := range l.Items {
				finds(t, l, x.Key, x.V, true)
			}
		}
		if (e == api.OK || e == api.ErrBig) && Size(l) != sizeOf(l) {
			t.Fatalf("Size(%s): %d; want %d", shown(l), Size(l), sizeOf(l))
		}
	}
	if found[api.OK] < 3000 || found[api.ErrForm] < 1000 || found[api.ErrBig] < 300 || found[api.ErrArg] < 300 {
		t.Fatal(found)
	}
}

// spoil makes a leaf another one, that may be or not.
func spoil(source *rand.Rand, l *Leaf) {
	n := len(l.Items)
	if source.Intn(2) == 0 || n == 0 {
		switch source.Intn(4) {
		case 0:
			l.Self = source.Intn(5000)
		case 1:
			l.Right = []int{0, l.Self, -1, 4095, 4096}[source.Intn(5)]
		case 2:
			l.High = anyText(source, source.Intn(140))
		default:
			l.High, l.Right = "", 0
		}
		return
	}
	x, y := &l.Items[source.Intn(n)], &l.Items[source.Intn(n)]
	switch source.Intn(5) {
	case 0:
		*x, *y = *y, *x
	case 1:
		x.Key = y.Key + anyText(source, source.Intn(2))
	case 2:
		x.V.Over = !x.V.Over
	case 3:
		x.V.S += long(source.Intn(300))
	default:
		x.V.Len += source.Intn(3) - 1
	}
}

// P10.2, P10.4: pages changed by chance, with the sum that they ought to have, held against the chapter's words; what decodes is encoded again as it was.
func TestDecodeOfChance(t *testing.T) {
	source := rand.New(rand.NewSource(103))
	found := map[api.Errno]int{}
	for range 16000 {
		p := sizes[source.Intn(3)]
		l := anyLeaf(source, p)
		for sizeOf(l) > p-16 {
			l.Items = l.Items[1:]
		}
		s := changed(source, pageOf(l, p))
		got, e := Decode(s)
		if want, wantErrno := decodeOf(s); !equal(got, want) || e != wantErrno {
			t.Fatalf("Decode(%q): %s, %d; want %s, %d", s, shown(got), e, shown(want), wantErrno)
		}
		found[e]++
		if e != api.OK {
			continue
		}
		if again, e := Encode(got, p); again != s || e != api.OK || !May(got, p) {
			t.Fatalf("%q is encoded again as %q, %d", s, again, e)
		}
	}
	if found[api.OK] < 3000 || found[api.ErrForm] < 3000 || len(found) > 2 {
		t.Fatal(found)
	}
}

// changed answers a page with some bytes changed, most where something stands, and the sum that it ought to have.
func changed(source *rand.Rand, s string) string {
	out := []byte(s)
	for range source.Intn(3) {
		at := source.Intn(len(out))
		switch source.Intn(4) {
		case 0:
			at = len(out) - 1 - source.Intn(12)
		case 1:
			at = 16 + source.Intn(24)
		}
		switch source.Intn(3) {
		case 0:
			out[at] = byte(source.Intn(256))
		case 1:
			out[at]++
		default:
			out[at]--
		}
	}
	return summed(string(out))
}

// Decode of texts that are no pages at all, or look like some.
func TestDecodeOfAnyText(t *testing.T) {
	source := rand.New(rand.NewSource(104))
	for range 5000 {
		s := anyText(source, source.Intn(1100))
		none(t, s)
		p := sizes[source.Intn(4)]
		s = sealed(2, 0, source.Intn(4), source.Intn(2), 3, anyText(source, p-16))
		got, e := Decode(s)
		if want, wantErrno := decodeOf(s); !equal(got, want) || e != wantErrno {
			t.Fatalf("Decode(%q): %s, %d; want %s, %d", s, shown(got), e, shown(want), wantErrno)
		}
	}
}

// R4: what is told is new memory, lists and texts.
func TestAnswersAreNew(t *testing.T) {
	apart := func(a, b string) {
		t.Helper()
		one, two := uintptr(unsafe.Pointer(unsafe.StringData(a))), uintptr(unsafe.Pointer(unsafe.StringData(b)))
		if one < two+uintptr(len(b)) && two < one+uintptr(len(a)) {
			t.Fatal("two texts share memory")
		}
	}
	l := Leaf{Self: 1, Right: 2, High: "common text of all", Items: pairs("common t", "values v", "common text", "values w")}
	s, e := Encode(l, 256)
	if e != api.OK {
		t.Fatal(e)
	}
	again, _ := Encode(l, 256)
	a, _ := Decode(s)
	b, _ := Decode(s)
	var texts []string
	for _, x := range []Leaf{l, a, b} {
		texts = append(texts, x.High)
		for _, item := range x.Items {
			texts = append(texts, item.Key, item.V.S)
		}
	}
	texts = append(texts, s, again)
	v, _ := Find(l, "common t")
	w, _ := Find(l, "common t")
	texts = append(texts, v.S, w.S)
	for i, x := range texts {
		for _, y := range texts[:i] {
			apart(x, y)
		}
	}
	if cap(a.Items) > 0 && cap(b.Items) > 0 && unsafe.SliceData(a.Items) == unsafe.SliceData(b.Items) {
		t.Fatal("two answers share a list")
	}
	clear(a.Items[:cap(a.Items)])
	decodes(t, s, l)
	if !equal(b, l) {
		t.Fatal("an answer changed with another one")
	}
}

// R4: what was handed in stays as it was, the room behind a list too, and may be changed afterwards.
func TestArgumentsStay(t *testing.T) {
	room := append(some().Items, Item{"behind", cell.Value{S: "it"}}, Item{"and", cell.Value{S: "more"}})
	was := slices.Clone(room)
	l := some()
	l.Items = room[:5]
	kept := copied(l)
	for _, p := range append([]int{0, 129}, sizes...) {
		s, e := Encode(l, p)
		May(l, p)
		Size(l)
		Same(l, kept)
		got, _ := Decode(s)
		Find(l, "abd")
		if !slices.Equal(room, was) || !equal(l, kept) {
			t.Fatal("what was handed in is another thing now")
		}
		if e != api.OK {
			continue
		}
		page := strings.Clone(s)
		room[0], room[3] = Item{"zz", cell.Value{S: "other"}}, Item{}
		if s != page || !equal(got, kept) {
			t.Fatal("what was told changed with what was handed in")
		}
		copy(room, was)
	}
}

// R5: the same call tells the same again, whatever was called between.
func TestAnswersStay(t *testing.T) {
	source := rand.New(rand.NewSource(105))
	s := encodes(t, some(), 256)
	was := strings.Clone(s)
	got, _ := Decode(s)
	v, _ := Find(got, "abc")
	for range 500 {
		l := anyLeaf(source, 256)
		Encode(l, 256)
		Decode(changed(source, s))
		Find(l, "abc")
		Size(l)
	}
	if s != was || !equal(got, some()) || v != (cell.Value{S: "yz"}) {
		t.Fatal("what was told is another thing now")
	}
	encodes(t, some(), 256)
}

// Ways: a page that is none is told by errors that are wrapped, with the part ahead of what it told.
func TestFaults(t *testing.T) {
	l := Leaf{Self: 1, Items: pairs("ab", "x", "ac", "y")}
	for _, x := range []struct {
		s    string
		is   error
		text string
	}{
		{"", api.ErrForm, "page: error"},
		{laid(128, l, strings.Repeat("\xff", 9)), api.ErrShort, "what the keys have in common: error"},
		{laid(128, l, "\xfa\x00\x00\x01a\x00"), api.ErrForm, "what the keys have in common: error"},
		{laid(128, l, "\x01a\x80"), api.ErrShort, "High: error"},
		{laid(128, l, "\x01a\x00b"), api.ErrForm, "cells: error"},
		{laid(128, l, "\x01a\x00", cellsOf(l)[0], "x"), api.ErrForm, "item 1: cell: error"},
		{sealed(3, 0, 2, 0, 1, pageOf(l, 128)[16:]), api.ErrForm, "leaf: error"},
	} {
		_, err := read(x.s)
		var f fault
		if !errors.As(err, &f) || !errors.Is(err, x.is) || err.Error() != x.text {
			t.Fatalf("%q: %v; want %q", x.s, err, x.text)
		}
	}
	if _, err := read(pageOf(l, 128)); err != nil {
		t.Fatal(err)
	}
}
