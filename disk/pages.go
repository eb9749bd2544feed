package disk

import "strings"

// width is how many pages a block has at most. A write lays one block and the list of the blocks anew; of api.MaxPages these are as many as a block has pages.
const width = 64

// pages are pages of one size, in blocks. What was laid once is never changed, so many may share it.
type pages struct {
	size, count int
	blocks      [][]string
}

// page answers page i: bytes 0, if it was never written.
func (p pages) page(i int) string {
	if text := get(get(p.blocks, i/width), i%width); text != "" {
		return text
	}
	return zeros(p.size)
}

// with answers the pages of which page i is another text, and which are as many as it asks for.
func (p pages) with(i int, text string) pages {
	block := put(get(p.blocks, i/width), i%width, text)
	return pages{size: p.size, count: max(p.count, i+1), blocks: put(p.blocks, i/width, block)}
}

// get answers what stands at a place of l, or nothing where l is too short.
func get[T any](l []T, i int) T {
	if i < len(l) {
		return l[i]
	}
	var none T
	return none
}

// put answers a new list, as l but for x at place i. At the cut l has no room left, so that what is added is laid elsewhere, and l stays as it was.
func put[T any](l []T, i int, x T) []T {
	cut := min(i, len(l))
	out := append(l[:cut:cut], make([]T, i+1-cut)...)
	out[i] = x
	return append(out, l[min(i+1, len(l)):]...)
}

// zeros answers n bytes 0.
func zeros(n int) string { return strings.Repeat("\x00", n) }
