// Package word is layer 1: numbers whose bytes are in the numbers' order. See shared/doc/01-word.md.
package word

import (
	"math/bits"

	"withy/api"
)

// The greatest numbers of one byte, of two and of three.
const (
	topOne   = 240
	topTwo   = 2287
	topThree = 67823
)

// What the first of several bytes begins with: that of two bytes is 241 to 248, that of three 249, that of more 247 and how many follow.
const (
	firstTwo   = 241
	firstThree = 249
	firstMore  = 247
)

// Put answers the bytes of n.
func Put(n uint64) string {
	switch {
	case n <= topOne:
		return highFirst(n, 1)
	case n <= topTwo:
		// The 256th part of the rest is added to the first byte by the same sum that lays the rest behind it.
		return highFirst(firstTwo<<8+(n-topOne), 2)
	case n <= topThree:
		return highFirst(firstThree<<16+(n-topTwo-1), 3)
	}
	count := byteLen(n)
	return highFirst(uint64(firstMore+count), 1) + highFirst(n, count)
}

// Size answers how many bytes Put(n) has.
func Size(n uint64) int {
	switch {
	case n <= topOne:
		return 1
	case n <= topTwo:
		return 2
	case n <= topThree:
		return 3
	}
	return 1 + byteLen(n)
}

// Get answers the number whose bytes begin at a place of s, and the place behind them.
func Get(s string, at int) (uint64, int, api.Errno) {
	if at < 0 || at > len(s) {
		return 0, 0, api.ErrArg
	}
	if at == len(s) || len(s)-at <= follow(s[at]) {
		return 0, 0, api.ErrShort
	}
	end := at + 1 + follow(s[at])
	n := told(s[at], s[at+1:end])
	// Several rows of bytes may tell one number; only what Put answers keeps bytes in the numbers' order.
	if Put(n) != s[at:end] {
		return 0, 0, api.ErrForm
	}
	return n, end, api.OK
}

// Four answers the four bytes of n, the lowest first.
func Four(n uint32) string {
	var out [4]byte
	for i := range len(out) {
		out[i] = byte(n >> (8 * i))
	}
	return string(out[:])
}

// Read answers the number of the four bytes at a place of s.
func Read(s string, at int) (uint32, api.Errno) {
	if at < 0 || at > len(s) {
		return 0, api.ErrArg
	}
	if len(s)-at < 4 {
		return 0, api.ErrShort
	}
	n := uint32(0)
	for i := range 4 {
		n |= uint32(s[at+i]) << (8 * i)
	}
	return n, api.OK
}

// follow answers how many bytes stand behind a first byte: each greater kind of first byte asks for one more than the kind below it.
func follow(first byte) int {
	count := 0
	switch first {
	case 255:
		count++
		fallthrough
	case 254:
		count++
		fallthrough
	case 253:
		count++
		fallthrough
	case 252:
		count++
		fallthrough
	case 251:
		count++
		fallthrough
	case 250:
		count++
		fallthrough
	case 249:
		count++
		fallthrough
	case 241, 242, 243, 244, 245, 246, 247, 248:
		count++
	}
	return count
}

// told answers the number that a first byte and those behind it tell, whether or not they are its own bytes.
func told(first byte, rest string) uint64 {
	n := uint64(0)
	for i := range len(rest) {
		n = n<<8 | uint64(rest[i])
	}
	switch {
	case first < firstTwo:
		return uint64(first)
	case first < firstThree:
		return topOne + uint64(first-firstTwo)<<8 + n
	case first == firstThree:
		return topTwo + 1 + n
	}
	return n
}

// byteLen answers how many bytes n has as a number of base 256, without zeros ahead.
func byteLen(n uint64) int {
	return (bits.Len64(n) + 7) / 8
}

// highFirst answers the lowest count bytes of n, the highest of them first.
func highFirst(n uint64, count int) string {
	out := make([]byte, count)
	for i := range count {
		out[i] = byte(n >> (8 * (count - 1 - i)))
	}
	return string(out)
}
