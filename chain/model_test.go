package chain_test

import (
	"encoding/binary"
	"fmt"
	"hash/crc32"
	"math/rand"
	"slices"
	"strings"

	"withy/api"
	"withy/chain"
	"withy/word"
)

// sizes are those that a page may have.
var sizes = []int{128, 256, 512, 1024}

// mayBe follows the chapter's words on chain pages.
func mayBe(c chain.Chain, p int) bool {
	if !slices.Contains(sizes, p) || c.Self < 1 || c.Self > 4095 || c.Next < 0 || c.Next > 4095 || c.Next == c.Self {
		return false
	}
	if c.Next != 0 {
		return len(c.Data) == p-16
	}
	return len(c.Data) != 0 && len(c.Data) <= p-16
}

// summed answers the bytes of a page with the sum that they ought to have.
func summed(s string) string {
	n := crc32.Checksum([]byte(s[:12]+"\x00\x00\x00\x00"+s[16:]), crc32.MakeTable(crc32.Castagnoli))
	return s[:12] + word.Four(n) + s[16:]
}

// sealed answers the page of p bytes of a kind, a level, a count, the page at its right, its own number, and what its body begins with, whether or not they may be.
func sealed(p, kind, level, count, right, self int, body string) string {
	ahead := string([]byte{byte(kind), byte(level), byte(count), byte(count >> 8)})
	behind := strings.Repeat("\x00", p-16-len(body))
	return summed(ahead + word.Four(uint32(right)) + word.Four(uint32(self)) + word.Four(0) + body + behind)
}

// pageOf follows the chapter's words on a chain page's page, of one whose Data has room.
func pageOf(c chain.Chain, p int) string {
	return sealed(p, 4, 0, len(c.Data), c.Next, c.Self, c.Data)
}

// encodeOf follows the chapter's words on Encode.
func encodeOf(c chain.Chain, p int) (string, api.Errno) {
	switch {
	case !slices.Contains(sizes, p):
		return "", api.ErrArg
	case !mayBe(c, p):
		return "", api.ErrForm
	}
	return pageOf(c, p), api.OK
}

// decodeOf looks for the chain page whose page s is: its places leave one, and that one's page is s, or none's.
func decodeOf(s string) (chain.Chain, api.Errno) {
	if !slices.Contains(sizes, len(s)) {
		return chain.Chain{}, api.ErrForm
	}
	number := func(at int) int { return int(binary.LittleEndian.Uint32([]byte(s[at:]))) }
	count := int(s[2]) + 256*int(s[3])
	c := chain.Chain{Self: number(8), Next: number(4), Data: s[16:min(16+count, len(s))]}
	if len(c.Data) != count || !mayBe(c, len(s)) || pageOf(c, len(s)) != s {
		return chain.Chain{}, api.ErrForm
	}
	return c, api.OK
}

// partsOf follows the chapter's words on Parts, from byte to byte.
func partsOf(value string, p int) []string {
	var out []string
	part := []byte{}
	for i := range len(value) {
		if part = append(part, value[i]); len(part) == p-16 || i == len(value)-1 {
			out, part = append(out, string(part)), nil
		}
	}
	return out
}

// shown answers a text that tells all of a chain page.
func shown(c chain.Chain) string {
	return fmt.Sprintf("%d next %d, %d bytes %.40q", c.Self, c.Next, len(c.Data), c.Data)
}

// anyText answers n bytes of chance, many of them 0 or 1.
func anyText(source *rand.Rand, n int) string {
	out := make([]byte, n)
	for i := range out {
		if out[i] = byte(source.Intn(2)); source.Intn(3) > 0 {
			out[i] = byte(source.Intn(256))
		}
	}
	return string(out)
}

// anyChain answers a chain page of chance that may be, on pages of p bytes.
func anyChain(source *rand.Rand, p int) chain.Chain {
	c := chain.Chain{Self: 1 + source.Intn(4095)}
	if source.Intn(2) == 0 {
		c.Next = 1 + (c.Self+source.Intn(4094))%4095
		c.Data = anyText(source, p-16)
	} else {
		c.Data = anyText(source, 1+source.Intn(p-16))
	}
	return c
}
