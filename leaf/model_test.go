package leaf

import (
	"encoding/binary"
	"fmt"
	"hash/crc32"
	"math/rand"
	"slices"
	"strings"

	"withy/api"
	"withy/cell"
)

// sizes are those that a page may have.
var sizes = []int{128, 256, 512, 1024}

// numberOf follows layer 1's words on a number's bytes, of numbers up to 67823.
func numberOf(n int) string {
	switch {
	case n <= 240:
		return string([]byte{byte(n)})
	case n <= 2287:
		return string([]byte{byte(241 + (n-240)/256), byte((n - 240) % 256)})
	}
	return string([]byte{249, byte((n - 2288) / 256), byte((n - 2288) % 256)})
}

// textOf answers how many bytes s has, and it.
func textOf(s string) string { return numberOf(len(s)) + s }

// valueMayBe follows the words on values: those of layer 9, and, of pages of p bytes, those of the chapter.
func valueMayBe(v cell.Value, p int) bool {
	if v.Over {
		return v.S == "" && v.Len > p/4 && v.Len >= 1 && v.Len <= 4096 && v.Page >= 1 && v.Page <= 4095
	}
	return len(v.S) <= p/4 && len(v.S) <= 256 && v.Len == 0 && v.Page == 0
}

// mayBe follows the chapter's words on leaves.
func mayBe(l Leaf, p int) bool {
	if !slices.Contains(sizes, p) || l.Self < 1 || l.Self > 4095 || l.Right < 0 || l.Right > 4095 || l.Self == l.Right {
		return false
	}
	if (l.Right == 0) != (l.High == "") || len(l.High) > p/8 {
		return false
	}
	for i, x := range l.Items {
		if len(x.Key) > p/8 || !valueMayBe(x.V, p) {
			return false
		}
		if i > 0 && strings.Compare(l.Items[i-1].Key, x.Key) != -1 || l.Right != 0 && strings.Compare(x.Key, l.High) != -1 {
			return false
		}
	}
	return true
}

// commonOf answers what all keys begin with.
func commonOf(l Leaf) string {
	if len(l.Items) == 0 {
		return ""
	}
	out := l.Items[0].Key
	for _, x := range l.Items {
		for !strings.HasPrefix(x.Key, out) {
			out = out[:len(out)-1]
		}
	}
	return out
}

// fixedOf follows the chapter's words on a leaf's fixed bytes.
func fixedOf(l Leaf) string { return textOf(commonOf(l)) + textOf(l.High) }

// cellOf answers the cell of what a key has behind the common bytes, and a value.
func cellOf(rest string, v cell.Value) string {
	if v.Over {
		return textOf(rest) + "\x01" + numberOf(v.Len) + string(binary.LittleEndian.AppendUint32(nil, uint32(v.Page)))
	}
	return textOf(rest) + "\x00" + textOf(v.S)
}

// cellsOf follows the chapter's words on a leaf's cells.
func cellsOf(l Leaf) []string {
	var out []string
	for _, x := range l.Items {
		out = append(out, cellOf(x.Key[len(commonOf(l)):], x.V))
	}
	return out
}

// needs answers how many bytes fixed bytes, cells and their directory have.
func needs(fixed string, cells []string) int {
	return len(fixed) + len(strings.Join(cells, "")) + 2*len(cells) + 2
}

// sizeOf follows the chapter's words on a leaf's Size.
func sizeOf(l Leaf) int { return needs(fixedOf(l), cellsOf(l)) }

// bodyOf answers the body of fixed bytes and cells that have room in it.
func bodyOf(room int, fixed string, cells []string) string {
	ahead, directory := fixed, ""
	for _, c := range cells {
		directory = string(binary.LittleEndian.AppendUint16(nil, uint16(len(ahead)))) + directory
		ahead += c
	}
	directory = string(binary.LittleEndian.AppendUint16(nil, uint16(len(ahead)))) + directory
	return ahead + strings.Repeat("\x00", room-len(ahead)-len(directory)) + directory
}

// summed answers the bytes of a page with the sum that they ought to have.
func summed(s string) string {
	n := crc32.Checksum([]byte(s[:12]+"\x00\x00\x00\x00"+s[16:]), crc32.MakeTable(crc32.Castagnoli))
	return s[:12] + string(binary.LittleEndian.AppendUint32(nil, n)) + s[16:]
}

// sealed answers the page of a kind, a level, a count, the page at its right, its own number, and a body.
func sealed(kind, level, count, right, self int, body string) string {
	out := []byte{byte(kind), byte(level), byte(count), byte(count >> 8)}
	out = binary.LittleEndian.AppendUint32(out, uint32(right))
	out = binary.LittleEndian.AppendUint32(out, uint32(self))
	return summed(string(out) + "\x00\x00\x00\x00" + body)
}

// pageOf follows the chapter's words on a leaf's page, of leaves that have room.
func pageOf(l Leaf, p int) string {
	return sealed(2, 0, len(l.Items), l.Right, l.Self, bodyOf(p-16, fixedOf(l), cellsOf(l)))
}

// encodeOf follows the chapter's words on Encode.
func encodeOf(l Leaf, p int) (string, api.Errno) {
	switch {
	case !slices.Contains(sizes, p):
		return "", api.ErrArg
	case !mayBe(l, p):
		return "", api.ErrForm
	case sizeOf(l) > p-16:
		return "", api.ErrBig
	}
	return pageOf(l, p), api.OK
}

// decodeOf looks for the leaf whose page s is: its places leave one, and that one's page is s, or none's.
func decodeOf(s string) (Leaf, api.Errno) {
	l, ok := guess(s)
	if !ok || !mayBe(l, len(s)) || sizeOf(l) > len(s)-16 || pageOf(l, len(s)) != s {
		return Leaf{}, api.ErrForm
	}
	return l, api.OK
}

// guess answers the one leaf whose page s may be, if it is any leaf's; false, if it surely is none's.
func guess(s string) (Leaf, bool) {
	if !slices.Contains(sizes, len(s)) {
		return Leaf{}, false
	}
	count, body := int(s[2])+int(s[3])<<8, s[16:]
	l := Leaf{Right: int(binary.LittleEndian.Uint32([]byte(s[4:]))), Self: int(binary.LittleEndian.Uint32([]byte(s[8:])))}
	common, rest, ok := first(body)
	if !ok {
		return Leaf{}, false
	}
	if l.High, _, ok = first(rest); !ok || 2*(count+1) > len(body) {
		return Leaf{}, false
	}
	for i := range count {
		from := int(binary.LittleEndian.Uint16([]byte(body[len(body)-2*i-2:])))
		to := int(binary.LittleEndian.Uint16([]byte(body[len(body)-2*i-4:])))
		if from > to || to > len(body) {
			return Leaf{}, false
		}
		x, ok := guessItem(common, body[from:to])
		if !ok {
			return Leaf{}, false
		}
		l.Items = append(l.Items, x)
	}
	return l, true
}

// guessItem answers the one item whose cell s may be.
func guessItem(common, s string) (Item, bool) {
	rest, s, ok := first(s)
	if !ok || len(s) < 2 {
		return Item{}, false
	}
	if s[0] == 0 {
		text, _, ok := first(s[1:])
		return Item{common + rest, cell.Value{S: text}}, ok
	}
	if len(s) < 6 {
		return Item{}, false
	}
	n := int(s[1])
	if n > 248 && len(s) > 7 {
		n = 2288 + int(s[2])*256 + int(s[3])
	} else if n > 240 && len(s) > 6 {
		n = 240 + (n-241)*256 + int(s[2])
	}
	page := int(binary.LittleEndian.Uint32([]byte(s[len(s)-4:])))
	return Item{common + rest, cell.Value{Over: true, Len: n, Page: page}}, true
}

// first answers the text at the beginning of s, of up to 495 bytes, behind how many bytes it has, and what stands behind it.
func first(s string) (string, string, bool) {
	if s == "" || s[0] > 241 || s[0] == 241 && len(s) < 2 {
		return "", "", false
	}
	n, from := int(s[0]), 1
	if n == 241 {
		n, from = 240+int(s[1]), 2
	}
	if n > len(s)-from {
		return "", "", false
	}
	return s[from : from+n], s[from+n:], true
}

// shown answers a text that tells a leaf.
func shown(l Leaf) string { return fmt.Sprintf("%.400q", fmt.Sprintf("%+v", l)) }

// copied answers a leaf that shares no list with l.
func copied(l Leaf) Leaf {
	l.Items = slices.Clone(l.Items)
	return l
}

// pairs answers items of keys and values, by turns.
func pairs(texts ...string) []Item {
	var out []Item
	for i := 0; i < len(texts); i += 2 {
		out = append(out, Item{texts[i], cell.Value{S: texts[i+1]}})
	}
	return out
}

// anyText answers n bytes of chance, many of them 0 or 1.
func anyText(source *rand.Rand, n int) string {
	out := make([]byte, n)
	for i := range out {
		if source.Intn(3) > 0 {
			out[i] = byte(source.Intn(256))
		} else {
			out[i] = byte(source.Intn(2))
		}
	}
	return string(out)
}

// anyValue answers a value of chance that may be on pages of p bytes, often one of the longest.
func anyValue(source *rand.Rand, p int) cell.Value {
	switch source.Intn(8) {
	case 0:
		return cell.Value{Over: true, Len: p/4 + 1 + source.Intn(4096-p/4), Page: 1 + source.Intn(4095)}
	case 1:
		return cell.Value{Over: true, Len: p/4 + 1, Page: 4095}
	case 2:
		return cell.Value{S: anyText(source, p/4)}
	}
	return cell.Value{S: anyText(source, source.Intn(6))}
}

// anyLeaf answers a leaf of chance that may be, on pages of p bytes; most have room.
func anyLeaf(source *rand.Rand, p int) Leaf {
	common := anyText(source, source.Intn(p/8))
	if source.Intn(3) == 0 {
		common = ""
	}
	var keys []string
	for range source.Intn(2 + p/16) {
		keys = append(keys, common+anyText(source, source.Intn(min(4, p/8-len(common))+1)))
	}
	slices.Sort(keys)
	l := Leaf{Self: 1 + source.Intn(4095)}
	for _, key := range slices.Compact(keys) {
		l.Items = append(l.Items, Item{key, anyValue(source, p)})
	}
	if source.Intn(2) == 0 {
		return l
	}
	l.Right = 1 + (l.Self+source.Intn(4094))%4095
	l.High = "\xff" + anyText(source, source.Intn(p/8))
	for len(l.Items) > 0 && l.Items[len(l.Items)-1].Key >= l.High {
		l.Items = l.Items[:len(l.Items)-1]
	}
	return l
}
