package long_test

import (
	"encoding/binary"
	"hash/crc32"
	"math/rand"
	"slices"
	"strconv"
	"strings"
	"testing"

	"withy/api"
	"withy/chain"
	"withy/inner"
	"withy/leaf"
	"withy/meta"
)

// sizes are those that a page may have.
var sizes = []int{128, 256, 512, 1024}

// four answers the four bytes of a number, the lowest first, without those that are too high for them.
func four(n int) string { return string(binary.LittleEndian.AppendUint32(nil, uint32(n))) }

// sealed answers the chain page of p bytes of its own number, the next one, and some bytes, whether or not they may be.
func sealed(self, next int, data string, p int) string {
	ahead := "\x04\x00" + four(len(data))[:2] + four(next) + four(self)
	behind := data + strings.Repeat("\x00", p-16-len(data))
	n := crc32.Checksum([]byte(ahead+four(0)+behind), crc32.MakeTable(crc32.Castagnoli))
	return ahead + four(int(n)) + behind
}

// spillOf follows the chapter's words on Spill, from page to page.
func spillOf(value string, first, p int) ([]string, api.Errno) {
	switch {
	case !slices.Contains(sizes, p) || first < 1:
		return nil, api.ErrArg
	case value == "" || len(value) > 4096:
		return nil, api.ErrForm
	}
	var out []string
	self := first
	for ; len(value) > p-16; self++ {
		if self > 4095 {
			return nil, api.ErrFull
		}
		out = append(out, sealed(self, self+1, value[:p-16], p))
		value = value[p-16:]
	}
	if self > 4095 {
		return nil, api.ErrFull
	}
	return append(out, sealed(self, 0, value, p)), api.OK
}

// loadOf follows the chapter's words on Load, all pages ahead of what the last one and the bytes tell.
func loadOf(l []string, p, first, n int) (string, []int, api.Errno) {
	if !slices.Contains(sizes, p) || n < 1 || n > 4096 {
		return "", nil, api.ErrArg
	}
	value, next := "", first
	var numbers []int
	count := (n + p - 17) / (p - 16)
	for i := range count {
		if next < 0 || next >= len(l) {
			return "", nil, api.ErrForm
		}
		c, e := chain.Decode(l[next])
		if e != api.OK || c.Self != next || len(l[next]) != p {
			return "", nil, api.ErrForm
		}
		if i < count-1 && c.Next == 0 {
			return "", nil, api.ErrForm
		}
		value, numbers, next = value+c.Data, append(numbers, next), c.Next
	}
	if next != 0 {
		return "", nil, api.ErrLoop
	}
	if len(value) != n {
		return "", nil, api.ErrForm
	}
	return value, numbers, api.OK
}

// text answers n bytes, which are numbers that rise, so that no part of it of ten bytes stands there twice.
func text(n int) string {
	var out strings.Builder
	for i := 0; out.Len() < n; i++ {
		out.WriteString(strconv.Itoa(10000+i) + " ")
	}
	return out.String()[:n]
}

// others answers n pages of p bytes, each at its place, of which none is a chain page.
func others(t *testing.T, n, p int) []string {
	t.Helper()
	l := make([]string, n)
	for i := range l {
		e := api.OK
		switch {
		case i == 0:
			l[i], e = meta.Encode(meta.Meta{P: p, Pages: max(n, 2), Root: 1})
		case i%2 == 0:
			l[i], e = inner.Encode(inner.Inner{Self: i, Level: 1, Kids: []int{1}}, p)
		default:
			l[i], e = leaf.Encode(leaf.Leaf{Self: i}, p)
		}
		if e != api.OK {
			t.Fatal(i, e)
		}
	}
	return l
}

// lay makes the pages of l at some places those of a value, each leading to the next one of the places, and the last one to next.
func lay(l []string, value string, p, next int, places ...int) {
	for i, self := range places {
		to, end := next, len(value)
		if i < len(places)-1 {
			to, end = places[i+1], p-16
		}
		l[self] = sealed(self, to, value[:end], p)
		value = value[end:]
	}
}

// from answers n numbers, from first on.
func from(first, n int) []int {
	out := make([]int, n)
	for i := range out {
		out[i] = first + i
	}
	return out
}

// anyText answers n bytes of chance, many of them 0 or 1.
func anyText(source *rand.Rand, n int) string {
	out := make([]byte, n)
	for i := range out {
		if out[i] = byte(source.Intn(2)); source.Intn(3) > 0 {
			out[i] = byte(source.Intn(256))
		}
	}
	return string(out)
}
