package cell

import (
	"encoding/binary"
	"math/rand"

	"withy/api"
)

// numberOf follows layer 1's words on a number's bytes, of numbers up to 67823.
func numberOf(n int) string {
	switch {
	case n <= 240:
		return string([]byte{byte(n)})
	case n <= 2287:
		return string([]byte{byte(241 + (n-240)/256), byte((n - 240) % 256)})
	}
	return string([]byte{249, byte((n - 2288) / 256), byte((n - 2288) % 256)})
}

// fourOf answers the four bytes of a number, the lowest first.
func fourOf(n int) string { return string(binary.LittleEndian.AppendUint32(nil, uint32(n))) }

// mayBe follows the chapter's words on values.
func mayBe(v Value) bool {
	own := !v.Over && len(v.S) <= 256 && v.Len == 0 && v.Page == 0
	far := v.Over && v.S == "" && v.Len >= 1 && v.Len <= 4096 && v.Page >= 1 && v.Page <= 4095
	return own || far
}

// valueCellOf follows the chapter's words on a value's cell.
func valueCellOf(suffix string, v Value) (string, api.Errno) {
	if len(suffix) > 128 || !mayBe(v) {
		return "", api.ErrForm
	}
	out := numberOf(len(suffix)) + suffix
	if v.Over {
		return out + "\x01" + numberOf(v.Len) + fourOf(v.Page), api.OK
	}
	return out + "\x00" + numberOf(len(v.S)) + v.S, api.OK
}

// kidCellOf follows the chapter's words on a kid's cell.
func kidCellOf(kid int, suffix string) (string, api.Errno) {
	if len(suffix) > 128 || kid < 1 || kid > 4095 {
		return "", api.ErrForm
	}
	return fourOf(kid) + numberOf(len(suffix)) + suffix, api.OK
}

// valueOf looks for what a value's cell is of among the few that it can be: its length and its first bytes leave no more.
func valueOf(s string) (string, Value, api.Errno) {
	for n := range min(129, len(s)) {
		suffix := s[1:]
		suffix = suffix[:min(n, len(suffix))]
		for v := range candidates(s) {
			if again, e := valueCellOf(suffix, v); e == api.OK && again == s {
				return suffix, v, api.OK
			}
		}
	}
	return "", Value{}, api.ErrForm
}

// candidates tells the values that may be a cell's, by its end.
func candidates(s string) func(func(Value) bool) {
	return func(tell func(Value) bool) {
		for n := range min(257, len(s)) {
			if !tell(Value{S: s[len(s)-n:]}) {
				return
			}
		}
		if len(s) < 7 {
			return
		}
		page := int(binary.LittleEndian.Uint32([]byte(s[len(s)-4:])))
		ahead := s[:len(s)-4]
		lens := []int{int(ahead[len(ahead)-1])}
		lens = append(lens, 240+(int(ahead[len(ahead)-2])-241)*256+lens[0])
		lens = append(lens, 2288+int(ahead[len(ahead)-2])*256+lens[0])
		for _, n := range lens {
			if !tell(Value{Over: true, Len: n, Page: page}) {
				return
			}
		}
	}
}

// kidOf looks for what a kid's cell is of.
func kidOf(s string) (int, string, api.Errno) {
	if len(s) < 5 {
		return 0, "", api.ErrForm
	}
	kid, suffix := int(binary.LittleEndian.Uint32([]byte(s))), s[5:]
	if again, e := kidCellOf(kid, suffix); e != api.OK || again != s {
		return 0, "", api.ErrForm
	}
	return kid, suffix, api.OK
}

// anyText answers n bytes of chance, many of them 0 or 1.
func anyText(source *rand.Rand, n int) string {
	out := make([]byte, n)
	for i := range out {
		if source.Intn(3) > 0 {
			out[i] = byte(source.Intn(256))
		} else {
			out[i] = byte(source.Intn(2))
		}
	}
	return string(out)
}

// oneOf answers one of some numbers, or one up to the last of them.
func oneOf(source *rand.Rand, l ...int) int {
	if source.Intn(2) == 0 {
		return source.Intn(l[len(l)-1] + 1)
	}
	return l[source.Intn(len(l))]
}

// anyValue answers a value of chance; most may be.
func anyValue(source *rand.Rand) Value {
	if source.Intn(2) == 0 {
		return Value{S: anyText(source, oneOf(source, 0, 1, 2, 5, 240, 241, 255, 256, 257))}
	}
	return Value{Over: true, Len: oneOf(source, 0, 1, 240, 241, 2287, 2288, 4095, 4096, 4097), Page: oneOf(source, 0, 1, 255, 256, 4095, 4096)}
}
