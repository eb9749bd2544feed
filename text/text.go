// Package text puts ahead of a text how many bytes it has, so that it can be told from what stands behind it. Leaves and inner pages begin with such texts.
package text

import (
	"strings"

	"withy/api"
	"withy/word"
)

// Put answers how many bytes s has, and it.
func Put(s string) string { return word.Put(uint64(len(s))) + s }

// Get answers the text that was put at a place of s, and the place behind it: word.Get's error, or api.ErrShort, if s ends ahead of the text's end.
func Get(s string, at int) (string, int, api.Errno) {
	n, at, e := word.Get(s, at)
	if e != api.OK {
		return "", 0, e
	}
	// Held as it was read: a very great number is not an int.
	if n > uint64(len(s)-at) {
		return "", 0, api.ErrShort
	}
	end := at + int(n)
	return strings.Clone(s[at:end]), end, api.OK
}
