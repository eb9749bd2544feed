package head

import (
	"encoding/binary"
	"hash/crc32"
	"math/rand"
	"strings"

	"withy/api"
)

// sizes are those that a page may have.
var sizes = []int{128, 256, 512, 1024}

// ends are, of each field of a head, the least number that may be and the greatest.
var ends = []struct {
	name        string
	least, most int
	set         func(h *Head, n int)
}{
	{"Kind", 1, 4, func(h *Head, n int) { h.Kind = n }},
	{"Level", 0, 255, func(h *Head, n int) { h.Level = n }},
	{"Count", 0, 65535, func(h *Head, n int) { h.Count = n }},
	{"Right", 0, 4095, func(h *Head, n int) { h.Right = n }},
	{"Self", 0, 4095, func(h *Head, n int) { h.Self = n }},
}

// with answers a head of which one field is another number.
func with(h Head, field, n int) Head {
	ends[field].set(&h, n)
	return h
}

// mayBe follows the chapter's words on heads.
func mayBe(h Head) bool {
	return 1 <= h.Kind && h.Kind <= 4 && 0 <= h.Level && h.Level <= 255 && 0 <= h.Count && h.Count <= 65535 &&
		0 <= h.Right && h.Right <= 4095 && 0 <= h.Self && h.Self <= 4095
}

// sumOf answers the four bytes of the sum of s, as Go's own library tells it.
func sumOf(s string) string {
	n := crc32.Checksum([]byte(s), crc32.MakeTable(crc32.Castagnoli))
	return string(binary.LittleEndian.AppendUint32(nil, n))
}

// summed answers the bytes of a page with the sum that they ought to have.
func summed(s string) string {
	return s[:12] + sumOf(s[:12]+"\x00\x00\x00\x00"+s[16:]) + s[16:]
}

// pageOf follows the chapter's words on a page's bytes, with none of the project's own functions.
func pageOf(h Head, body string, p int) string {
	out := make([]byte, p)
	out[0], out[1] = byte(h.Kind), byte(h.Level)
	binary.LittleEndian.PutUint16(out[2:], uint16(h.Count))
	binary.LittleEndian.PutUint32(out[4:], uint32(h.Right))
	binary.LittleEndian.PutUint32(out[8:], uint32(h.Self))
	copy(out[16:], body)
	return summed(string(out))
}

// sealOf follows the chapter's words on Seal.
func sealOf(h Head, body string, p int) (string, api.Errno) {
	switch {
	case p != 128 && p != 256 && p != 512 && p != 1024:
		return "", api.ErrArg
	case !mayBe(h):
		return "", api.ErrForm
	case len(body) > p-16:
		return "", api.ErrBig
	}
	return pageOf(h, body, p), api.OK
}

// openOf follows the chapter's words on Open.
func openOf(s string) (Head, string, api.Errno) {
	if n := len(s); n != 128 && n != 256 && n != 512 && n != 1024 {
		return Head{}, "", api.ErrForm
	}
	raw := []byte(s)
	h := Head{
		Kind:  int(raw[0]),
		Level: int(raw[1]),
		Count: int(binary.LittleEndian.Uint16(raw[2:])),
		Right: int(binary.LittleEndian.Uint32(raw[4:])),
		Self:  int(binary.LittleEndian.Uint32(raw[8:])),
	}
	if !mayBe(h) || summed(s) != s {
		return Head{}, "", api.ErrForm
	}
	return h, s[16:], api.OK
}

// filled answers a body behind which bytes 0 stand, as many as are missing.
func filled(body string, p int) string { return body + strings.Repeat("\x00", p-16-len(body)) }

// anyHead answers a head of chance that may be, its numbers often at their ends.
func anyHead(source *rand.Rand) Head {
	h := Head{}
	for i, x := range ends {
		n := x.least + source.Intn(x.most-x.least+1)
		switch source.Intn(5) {
		case 0:
			n = x.least
		case 1:
			n = x.most
		}
		h = with(h, i, n)
	}
	return h
}

// anyText answers n bytes of chance.
func anyText(source *rand.Rand, n int) string {
	out := make([]byte, n)
	for i := range out {
		out[i] = byte(source.Intn(256))
	}
	return string(out)
}

// endHeads answers heads of which each field is at one of its ends, in each way.
func endHeads() []Head {
	out := []Head{{}}
	for i, x := range ends {
		var next []Head
		for _, h := range out {
			next = append(next, with(h, i, x.least), with(h, i, x.most))
		}
		out = next
	}
	return out
}

// wrongHeads answers heads of which one field may not be, by one and by more, all others being those of h.
func wrongHeads(h Head) []Head {
	var out []Head
	for i, x := range ends {
		for _, n := range beyond(x.least, x.most) {
			out = append(out, with(h, i, n))
		}
	}
	return out
}

// beyond answers numbers below and above two ends, some of which have the same low bytes as one between them.
func beyond(least, most int) []int {
	const far = 1 << 62
	return []int{
		least - 1, least - 2, least - 256, least - 65536, least - 1<<32, -far,
		most + 1, most + 2, most + 256, most + 65536, most + 1<<32, least + 1<<32, far, 2*(far-1) + 1,
	}
}
