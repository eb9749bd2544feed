package meta_test

import (
	"encoding/binary"
	"fmt"
	"hash/crc32"
	"math"
	"math/rand"
	"slices"
	"strings"

	"withy/api"
	"withy/meta"
)

// sizes are those that a page may have.
var sizes = []int{128, 256, 512, 1024}

// mayBe follows the chapter's words on metas.
func mayBe(m meta.Meta) bool {
	switch {
	case !slices.Contains(sizes, m.P):
		return false
	case m.Pages < 2 || m.Pages > 4096:
		return false
	case m.Root < 1 || m.Root >= m.Pages:
		return false
	case m.Level < 0 || m.Level > 255:
		return false
	}
	return m.Pairs >= 0 && m.Pairs <= 2147483647
}

// four answers the four bytes of a number, the lowest first, without those that are too high for them.
func four(n int) string { return string(binary.LittleEndian.AppendUint32(nil, uint32(n))) }

// number answers the number of the four bytes at a place.
func number(s string, at int) int { return int(binary.LittleEndian.Uint32([]byte(s[at:]))) }

// summed answers the bytes of a page with the sum that they ought to have.
func summed(s string) string {
	n := crc32.Checksum([]byte(s[:12]+"\x00\x00\x00\x00"+s[16:]), crc32.MakeTable(crc32.Castagnoli))
	return s[:12] + four(int(n)) + s[16:]
}

// unsummed answers five bytes that begin with a given one; whatever they change by an exclusive or keeps its sum.
func unsummed(first byte) string {
	s := string([]byte{first})
	return s + four(int(^crc32.Update(math.MaxUint32, crc32.MakeTable(crc32.Castagnoli), []byte(s))))
}

// sealed answers the page of a kind, a level, a count, the page at its right, its own number, and a body, whether or not they may be.
func sealed(kind, level, count, right, self int, body string) string {
	return summed(string([]byte{byte(kind), byte(level), byte(count), byte(count >> 8)}) + four(right) + four(self) + four(0) + body)
}

// bodyOf follows the chapter's words on the body of a meta, of a page of p bytes.
func bodyOf(m meta.Meta, p int) string {
	front := "withy" + four(m.P) + four(m.Pages) + four(m.Pairs)
	return front + strings.Repeat("\x00", p-16-len(front)-1) + "W"
}

// pageOn answers a page of p bytes that tells the numbers of m, whether or not these may be.
func pageOn(m meta.Meta, p int) string { return sealed(1, m.Level, 0, m.Root, 0, bodyOf(m, p)) }

// pageOf follows the chapter's words on a meta's page, of a meta that may be.
func pageOf(m meta.Meta) string { return pageOn(m, m.P) }

// encodeOf follows the chapter's words on Encode.
func encodeOf(m meta.Meta) (string, api.Errno) {
	if !mayBe(m) {
		return "", api.ErrForm
	}
	return pageOf(m), api.OK
}

// decodeOf looks for the meta whose page s is: its places leave one, and that one's page is s, or none's.
func decodeOf(s string) (meta.Meta, api.Errno) {
	if !slices.Contains(sizes, len(s)) {
		return meta.Meta{}, api.ErrForm
	}
	m := meta.Meta{P: number(s, 21), Pages: number(s, 25), Root: number(s, 4), Level: int(s[1]), Pairs: number(s, 29)}
	if !mayBe(m) || pageOf(m) != s {
		return meta.Meta{}, api.ErrForm
	}
	return m, api.OK
}

// tearOf follows the chapter's words on Tear, from byte to byte.
func tearOf(fresh, old string, at int) string {
	if len(fresh) != len(old) {
		return ""
	}
	out := []byte{}
	for i := range len(fresh) {
		if i < at {
			out = append(out, fresh[i])
		} else {
			out = append(out, old[i])
		}
	}
	return string(out)
}

// shown answers a text that tells all of a meta.
func shown(m meta.Meta) string {
	return fmt.Sprintf("P %d, Pages %d, Root %d, Level %d, Pairs %d", m.P, m.Pages, m.Root, m.Level, m.Pairs)
}

// anyText answers n bytes of chance, many of them 0 or 1.
func anyText(source *rand.Rand, n int) string {
	out := make([]byte, n)
	for i := range out {
		if out[i] = byte(source.Intn(2)); source.Intn(3) > 0 {
			out[i] = byte(source.Intn(256))
		}
	}
	return string(out)
}

// anyMeta answers a meta of chance that may be.
func anyMeta(source *rand.Rand) meta.Meta {
	m := meta.Meta{P: sizes[source.Intn(4)], Pages: 2 + source.Intn(4095), Level: source.Intn(256), Pairs: source.Intn(1 << (1 + source.Intn(31)))}
	m.Root = 1 + source.Intn(m.Pages-1)
	return m
}
