package slot

import (
	"encoding/binary"
	"math/rand"
	"strings"

	"withy/api"
)

// sizeOf follows the chapter's words on how many bytes a body needs.
func sizeOf(fixed string, cells []string) int {
	return len(fixed) + len(strings.Join(cells, "")) + 2*len(cells) + 2
}

// bodyOf follows the chapter's words on a body's bytes, if there is room for them.
func bodyOf(room int, fixed string, cells []string) string {
	ahead := fixed
	directory := ""
	for _, cell := range cells {
		directory = string(binary.LittleEndian.AppendUint16(nil, uint16(len(ahead)))) + directory
		ahead += cell
	}
	directory = string(binary.LittleEndian.AppendUint16(nil, uint16(len(ahead)))) + directory
	return ahead + strings.Repeat("\x00", room-len(ahead)-len(directory)) + directory
}

// packOf follows the chapter's words on Pack.
func packOf(room int, fixed string, cells []string) (string, api.Errno) {
	switch {
	case room < 0 || room > 65535:
		return "", api.ErrArg
	case sizeOf(fixed, cells) > room:
		return "", api.ErrBig
	}
	return bodyOf(room, fixed, cells), api.OK
}

// unpackOf tells from a body's places alone which cells it has: the first one is where the fixed bytes end, none falls, and behind the last one are bytes 0 as far as the directory.
func unpackOf(body string, fixed, n int) ([]string, api.Errno) {
	if fixed < 0 || n < 0 || len(body) > 65535 {
		return nil, api.ErrArg
	}
	if n > 32767 || len(body)-2*(n+1) < 0 {
		return nil, api.ErrForm
	}
	top := len(body) - 2*(n+1)
	var places []int
	for i := n; i >= 0; i-- {
		places = append([]int{int(binary.LittleEndian.Uint16([]byte(body[top+2*i:])))}, places...)
	}
	last := fixed
	for i := range places {
		place := places[len(places)-1-i]
		if place < last || place > top || i == 0 && place != fixed {
			return nil, api.ErrForm
		}
		last = place
	}
	if strings.Trim(body[last:top], "\x00") != "" {
		return nil, api.ErrForm
	}
	var cells []string
	for i := range n {
		cells = append(cells, body[places[n-i]:places[n-i-1]])
	}
	return cells, api.OK
}

// anyText answers n bytes of chance, many of them 0.
func anyText(source *rand.Rand, n int) string {
	out := make([]byte, n)
	for i := range out {
		if source.Intn(3) > 0 {
			out[i] = byte(source.Intn(256))
		}
	}
	return string(out)
}

// anyCells answers some cells of chance, of up to as many bytes each.
func anyCells(source *rand.Rand, some, bytes int) []string {
	out := make([]string, source.Intn(some+1))
	for i := range out {
		out[i] = anyText(source, source.Intn(bytes+1))
	}
	return out
}
