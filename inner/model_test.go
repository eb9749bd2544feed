package inner_test

import (
	"encoding/binary"
	"fmt"
	"hash/crc32"
	"math/rand"
	"slices"
	"strings"

	"withy/api"
	"withy/inner"
	"withy/slot"
	"withy/word"
)

// sizes are those that a page may have.
var sizes = []int{128, 256, 512, 1024}

// mayBe follows the chapter's words on inner pages.
func mayBe(n inner.Inner, p int) bool {
	if !slices.Contains(sizes, p) || n.Self < 1 || n.Self > 4095 || n.Level < 1 || n.Level > 255 || n.Right < 0 || n.Right > 4095 || n.Right == n.Self {
		return false
	}
	if (n.High == "") != (n.Right == 0) || len(n.High) > p/8 || len(n.Kids) == 0 || len(n.Seps) != len(n.Kids)-1 {
		return false
	}
	for _, kid := range n.Kids {
		if kid < 1 || kid > 4095 {
			return false
		}
	}
	for i, s := range n.Seps {
		if s == "" || len(s) > p/8 || i > 0 && strings.Compare(n.Seps[i-1], s) != -1 || n.Right != 0 && strings.Compare(s, n.High) != -1 {
			return false
		}
	}
	return true
}

// textOf answers how many bytes s has, and it.
func textOf(s string) string { return word.Put(uint64(len(s))) + s }

// kidOf answers the cell of a kid, and of what its Sep has behind the common bytes.
func kidOf(kid int, rest string) string { return word.Four(uint32(kid)) + textOf(rest) }

// commonOf answers what all Seps begin with.
func commonOf(n inner.Inner) string {
	if len(n.Seps) == 0 {
		return ""
	}
	out := n.Seps[0]
	for _, s := range n.Seps {
		for !strings.HasPrefix(s, out) {
			out = out[:len(out)-1]
		}
	}
	return out
}

// fixedOf follows the chapter's words on an inner page's fixed bytes.
func fixedOf(n inner.Inner) string { return textOf(commonOf(n)) + textOf(n.High) }

// cellsOf follows the chapter's words on an inner page's cells, of one that has one Sep less than kids.
func cellsOf(n inner.Inner) []string {
	var out []string
	for i, kid := range n.Kids {
		rest := ""
		if i > 0 {
			rest = n.Seps[i-1][len(commonOf(n)):]
		}
		out = append(out, kidOf(kid, rest))
	}
	return out
}

// sizeOf follows the chapter's words on Size.
func sizeOf(n inner.Inner) int { return slot.Size(fixedOf(n), cellsOf(n)) }

// bodyOf answers the body of fixed bytes and cells that have room in it.
func bodyOf(room int, fixed string, cells []string) string {
	s, e := slot.Pack(room, fixed, cells)
	if e != api.OK {
		panic("no room for a body that a test needs")
	}
	return s
}

// summed answers the bytes of a page with the sum that they ought to have.
func summed(s string) string {
	n := crc32.Checksum([]byte(s[:12]+"\x00\x00\x00\x00"+s[16:]), crc32.MakeTable(crc32.Castagnoli))
	return s[:12] + word.Four(n) + s[16:]
}

// sealed answers the page of a kind, a level, a count, the page at its right, its own number, and a body, whether or not they may be.
func sealed(kind, level, count, right, self int, body string) string {
	ahead := string([]byte{byte(kind), byte(level), byte(count), byte(count >> 8)})
	return summed(ahead + word.Four(uint32(right)) + word.Four(uint32(self)) + word.Four(0) + body)
}

// laid answers the page of n, but for its fixed bytes and its cells.
func laid(p int, n inner.Inner, fixed string, cells ...string) string {
	return sealed(3, n.Level, len(cells), n.Right, n.Self, bodyOf(p-16, fixed, cells))
}

// pageOf follows the chapter's words on an inner page's page, of one that has room.
func pageOf(n inner.Inner, p int) string { return laid(p, n, fixedOf(n), cellsOf(n)...) }

// encodeOf follows the chapter's words on Encode.
func encodeOf(n inner.Inner, p int) (string, api.Errno) {
	switch {
	case !slices.Contains(sizes, p):
		return "", api.ErrArg
	case !mayBe(n, p):
		return "", api.ErrForm
	case sizeOf(n) > p-16:
		return "", api.ErrBig
	}
	return pageOf(n, p), api.OK
}

// decodeOf looks for the inner page whose page s is: its places leave one, and that one's page is s, or none's.
func decodeOf(s string) (inner.Inner, api.Errno) {
	n, ok := guess(s)
	if !ok || !mayBe(n, len(s)) || sizeOf(n) > len(s)-16 || pageOf(n, len(s)) != s {
		return inner.Inner{}, api.ErrForm
	}
	return n, api.OK
}

// guess answers the one inner page whose page s may be, if it is any one's; false, if it surely is none's.
func guess(s string) (inner.Inner, bool) {
	if !slices.Contains(sizes, len(s)) {
		return inner.Inner{}, false
	}
	number := func(at int) int { return int(binary.LittleEndian.Uint32([]byte(s[at:]))) }
	n := inner.Inner{Level: int(s[1]), Right: number(4), Self: number(8)}
	count, body := int(s[2])+int(s[3])<<8, s[16:]
	common, rest, ok := first(body)
	if !ok {
		return n, false
	}
	if n.High, _, ok = first(rest); !ok || 2*(count+1) > len(body) {
		return n, false
	}
	place := func(i int) int { return int(binary.LittleEndian.Uint16([]byte(body[len(body)-2*i-2:]))) }
	for i := range count {
		from, to := place(i), place(i+1)
		if to-from < 4 || to > len(body) {
			return n, false
		}
		rest, _, ok := first(body[from+4 : to])
		if !ok {
			return n, false
		}
		n.Kids = append(n.Kids, number(16+from))
		if i > 0 {
			n.Seps = append(n.Seps, common+rest)
		}
	}
	return n, true
}

// first answers the text at the beginning of s, of up to 240 bytes, as none is longer that may be, and what stands behind it.
func first(s string) (string, string, bool) {
	if s == "" || s[0] > 240 || int(s[0]) > len(s)-1 {
		return "", "", false
	}
	end := 1 + int(s[0])
	return s[1:end], s[end:], true
}

// routeOf follows the chapter's words on Route.
func routeOf(n inner.Inner, key string) int {
	above := 0
	for _, s := range n.Seps {
		if strings.Compare(s, key) > 0 {
			above++
		}
	}
	return len(n.Seps) - above
}

// end is what Ends tells.
type end struct {
	low, high string
	ends      bool
}

// endsOf follows the chapter's words on Ends, of what may be.
func endsOf(n inner.Inner, low string, i int) end {
	if i < 0 || i >= len(n.Kids) {
		return end{}
	}
	out := end{low, n.High, n.Right != 0}
	if i > 0 {
		out.low = n.Seps[i-1]
	}
	if i < len(n.Kids)-1 {
		out.high, out.ends = n.Seps[i], true
	}
	return out
}

// equal tells whether two inner pages are the same, without Same.
func equal(a, b inner.Inner) bool {
	numbers := a.Self == b.Self && a.Level == b.Level && a.Right == b.Right
	return numbers && a.High == b.High && slices.Equal(a.Kids, b.Kids) && slices.Equal(a.Seps, b.Seps)
}

// shown answers a text that tells all of an inner page.
func shown(n inner.Inner) string {
	return fmt.Sprintf("%d level %d right %d high %q kids %v seps %q", n.Self, n.Level, n.Right, n.High, n.Kids, n.Seps)
}

// copied answers an inner page that shares no list with n.
func copied(n inner.Inner) inner.Inner {
	n.Kids, n.Seps = slices.Clone(n.Kids), slices.Clone(n.Seps)
	return n
}

// anyText answers n bytes of chance, many of them 0 or 1.
func anyText(source *rand.Rand, n int) string {
	out := make([]byte, n)
	for i := range out {
		if out[i] = byte(source.Intn(2)); source.Intn(3) > 0 {
			out[i] = byte(source.Intn(256))
		}
	}
	return string(out)
}

// anyInner answers an inner page of chance that may be, on pages of p bytes; most have room.
func anyInner(source *rand.Rand, p int) inner.Inner {
	common := anyText(source, source.Intn(p/8))
	if source.Intn(3) == 0 {
		common = ""
	}
	n := inner.Inner{Self: 1 + source.Intn(4095), Level: 1 + source.Intn(255)}
	for range source.Intn(2 + p/10) {
		n.Seps = append(n.Seps, common+anyText(source, 1+source.Intn(min(4, p/8-len(common)))))
	}
	if source.Intn(2) == 0 {
		n.Right = 1 + (n.Self+source.Intn(4094))%4095
		n.High = "\xff" + anyText(source, source.Intn(p/8))
	}
	slices.Sort(n.Seps)
	n.Seps = slices.DeleteFunc(slices.Compact(n.Seps), func(s string) bool { return n.Right != 0 && s >= n.High })
	for range len(n.Seps) + 1 {
		n.Kids = append(n.Kids, 1+source.Intn(4095))
	}
	return n
}
