package page_test

import (
	"encoding/binary"
	"fmt"
	"hash/crc32"
	"math/rand"
	"slices"
	"strings"
	"testing"

	"withy/api"
	"withy/cell"
	"withy/chain"
	"withy/inner"
	"withy/leaf"
	"withy/meta"
	"withy/page"
)

// sizes are those that a page may have.
var sizes = []int{128, 256, 512, 1024}

// Pages of each Kind, with what is of that Kind, and all else zero.
func ofMeta(m meta.Meta) page.Page    { return page.Page{Kind: 1, M: m} }
func ofLeaf(l leaf.Leaf) page.Page    { return page.Page{Kind: 2, L: l} }
func ofInner(n inner.Inner) page.Page { return page.Page{Kind: 3, N: n} }
func ofChain(c chain.Chain) page.Page { return page.Page{Kind: 4, C: c} }

// four answers the four bytes of a number, the lowest first, without those that are too high for them.
func four(n int) string { return string(binary.LittleEndian.AppendUint32(nil, uint32(n))) }

// summed answers the bytes of a page with the sum that they ought to have.
func summed(s string) string {
	n := crc32.Checksum([]byte(s[:12]+"\x00\x00\x00\x00"+s[16:]), crc32.MakeTable(crc32.Castagnoli))
	return s[:12] + four(int(n)) + s[16:]
}

// sealed answers the page of a kind, a level, a count, the page at its right, its own number, and a body, whether or not they may be.
func sealed(kind, level, count, right, self int, body string) string {
	return summed(string([]byte{byte(kind), byte(level), byte(count), byte(count >> 8)}) + four(right) + four(self) + four(0) + body)
}

// encoded answers the page of p bytes of x, by what is of its Kind.
func encoded(t *testing.T, x page.Page, p int) string {
	t.Helper()
	s, e := "", api.ErrForm
	switch x.Kind {
	case 1:
		s, e = meta.Encode(x.M)
	case 2:
		s, e = leaf.Encode(x.L, p)
	case 3:
		s, e = inner.Encode(x.N, p)
	case 4:
		s, e = chain.Encode(x.C, p)
	}
	if e != api.OK || len(s) != p {
		t.Fatalf("%s has no page of %d bytes: %d", shown(x), p, e)
	}
	return s
}

// decodeOf asks each Decode for the page whose bytes s are, and holds against each other what they tell.
func decodeOf(t *testing.T, s string) (page.Page, api.Errno) {
	t.Helper()
	var found []page.Page
	if m, e := meta.Decode(s); e == api.OK {
		found = append(found, ofMeta(m))
	}
	if l, e := leaf.Decode(s); e == api.OK {
		found = append(found, ofLeaf(l))
	}
	if n, e := inner.Decode(s); e == api.OK {
		found = append(found, ofInner(n))
	}
	if c, e := chain.Decode(s); e == api.OK {
		found = append(found, ofChain(c))
	}
	switch len(found) {
	case 0:
		return page.Page{}, api.ErrForm
	case 1:
		return found[0], api.OK
	}
	t.Fatalf("%q is of %d Kinds", s, len(found))
	return page.Page{}, api.OK
}

// selfOf follows the chapter's words on Self.
func selfOf(x page.Page) int { return map[int]int{2: x.L.Self, 3: x.N.Self, 4: x.C.Self}[x.Kind] }

// rightOf follows the chapter's words on Right.
func rightOf(x page.Page) int {
	return map[int]int{1: x.M.Root, 2: x.L.Right, 3: x.N.Right, 4: x.C.Next}[x.Kind]
}

// atOf follows the chapter's words on At.
func atOf(t *testing.T, l []string, i int) (page.Page, api.Errno) {
	t.Helper()
	if i < 0 || i >= len(l) {
		return page.Page{}, api.ErrArg
	}
	x, e := decodeOf(t, l[i])
	if e == api.OK && selfOf(x) != i {
		return page.Page{}, api.ErrForm
	}
	return x, e
}

// surveyOf follows the chapter's words on Survey.
func surveyOf(t *testing.T, l []string) []int {
	t.Helper()
	var kinds []int
	for i := range l {
		x, e := atOf(t, l, i)
		if e != api.OK {
			x.Kind = 0
		}
		kinds = append(kinds, x.Kind)
	}
	return kinds
}

// equal tells whether two pages are the same, without any Same.
func equal(a, b page.Page) bool {
	leaves := a.L.Self == b.L.Self && a.L.Right == b.L.Right && a.L.High == b.L.High && slices.Equal(a.L.Items, b.L.Items)
	inners := a.N.Self == b.N.Self && a.N.Level == b.N.Level && a.N.Right == b.N.Right && a.N.High == b.N.High
	lists := slices.Equal(a.N.Kids, b.N.Kids) && slices.Equal(a.N.Seps, b.N.Seps)
	return a.Kind == b.Kind && leaves && inners && lists && a.C == b.C && a.M == b.M
}

// shown answers a text that tells all of a page.
func shown(x page.Page) string { return fmt.Sprintf("%.600q", fmt.Sprintf("%+v", x)) }

// copied answers a page that shares no list with x.
func copied(x page.Page) page.Page {
	x.L.Items, x.N.Kids, x.N.Seps = slices.Clone(x.L.Items), slices.Clone(x.N.Kids), slices.Clone(x.N.Seps)
	return x
}

// pairs answers items of keys and values, by turns.
func pairs(texts ...string) []leaf.Item {
	var out []leaf.Item
	for i := 0; i < len(texts); i += 2 {
		out = append(out, leaf.Item{Key: texts[i], V: cell.Value{S: texts[i+1]}})
	}
	return out
}

// long answers n bytes, not all of them the same.
func long(n int) string { return strings.Repeat("value of many", n/13+1)[:n] }

// anyText answers n bytes of chance, many of them 0 or 1.
func anyText(source *rand.Rand, n int) string {
	out := make([]byte, n)
	for i := range out {
		if out[i] = byte(source.Intn(2)); source.Intn(3) > 0 {
			out[i] = byte(source.Intn(256))
		}
	}
	return string(out)
}

// anyTexts answers at most n texts of chance that rise, and end below "\xff".
func anyTexts(source *rand.Rand, n int) []string {
	common := anyText(source, source.Intn(4))
	var out []string
	for range source.Intn(n + 1) {
		out = append(out, "a"+common+anyText(source, source.Intn(4)))
	}
	slices.Sort(out)
	return slices.Compact(out)
}

// anyPage answers a page of chance that may be, on pages of p bytes, and has room there.
func anyPage(source *rand.Rand, p int) page.Page {
	self := 1 + source.Intn(4095)
	right, high := 0, ""
	if source.Intn(2) == 0 {
		right, high = 1+(self+source.Intn(4094))%4095, "\xff"+anyText(source, source.Intn(p/16))
	}
	switch source.Intn(4) {
	case 0:
		pages := 2 + source.Intn(4095)
		return ofMeta(meta.Meta{P: p, Pages: pages, Root: 1 + source.Intn(pages-1), Level: source.Intn(256), Pairs: source.Intn(1 << (1 + source.Intn(31)))})
	case 1:
		l := leaf.Leaf{Self: self, Right: right, High: high}
		for _, key := range anyTexts(source, p/32) {
			v := cell.Value{S: anyText(source, source.Intn(6))}
			if source.Intn(5) == 0 {
				v = cell.Value{Over: true, Len: p/4 + 1 + source.Intn(4096-p/4), Page: 1 + source.Intn(4095)}
			}
			l.Items = append(l.Items, leaf.Item{Key: key, V: v})
		}
		return ofLeaf(l)
	case 2:
		n := inner.Inner{Self: self, Level: 1 + source.Intn(255), Right: right, High: high, Seps: anyTexts(source, p/32)}
		for range len(n.Seps) + 1 {
			n.Kids = append(n.Kids, 1+source.Intn(4095))
		}
		return ofInner(n)
	}
	if right != 0 {
		return ofChain(chain.Chain{Self: self, Next: right, Data: anyText(source, p-16)})
	}
	return ofChain(chain.Chain{Self: self, Data: anyText(source, 1+source.Intn(p-16))})
}

// numbered answers x with a number of its own, if it is no meta; what is at its right is another one still.
func numbered(x page.Page, self int) page.Page {
	other := self%4095 + 1
	switch x.Kind {
	case 2:
		if x.L.Self = self; x.L.Right == self {
			x.L.Right = other
		}
	case 3:
		if x.N.Self = self; x.N.Right == self {
			x.N.Right = other
		}
	case 4:
		if x.C.Self = self; x.C.Next == self {
			x.C.Next = other
		}
	}
	return x
}
