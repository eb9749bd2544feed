package sum

import (
	"hash/crc32"
	"math"
	"math/rand"
	"strings"
	"testing"
)

// known are texts whose sums are published (RFC 3720 has those of 32 and of 48 bytes).
var known = []struct {
	s    string
	want uint32
}{
	{"", 0},
	{"a", 0xC1D04330},
	{"abc", 0x364B3FB7},
	{"123456789", 0xE3069283},
	{strings.Repeat("\x00", 32), 0x8A9136AA},
	{strings.Repeat("\xff", 32), 0x62A8AB43},
	{rising(32), 0x46DD794E},
	{falling(32), 0x113FDB5C},
	{"\x01\xc0\x00\x00\x00\x00\x00\x00\x00\x00\x00\x00\x00\x00\x00\x00" +
		"\x14\x00\x00\x00\x00\x00\x04\x00\x00\x00\x00\x14\x00\x00\x00\x18" +
		"\x28\x00\x00\x00\x00\x00\x00\x00\x02\x00\x00\x00\x00\x00\x00\x00", 0xD9963A56},
}

// edges are the sums that are likelier than others to be taken wrong.
var edges = []uint32{0, 1, 2, 0x80, 0xFF, 0x100, 0x7FFFFFFF, 0x80000000, 0x82F63B78, 0x1EDC6F41, 0xE3069283, 0xFFFFFFFE, 0xFFFFFFFF}

func rising(n int) string {
	out := make([]byte, n)
	for i := range out {
		out[i] = byte(i)
	}
	return string(out)
}

func falling(n int) string {
	out := make([]byte, n)
	for i := range out {
		out[i] = byte(n - 1 - i)
	}
	return string(out)
}

// anyBytes answers n bytes that hang on the seed alone.
func anyBytes(seed int64, n int) string {
	source := rand.New(rand.NewSource(seed))
	out := make([]byte, n)
	for i := range out {
		out[i] = byte(source.Intn(256))
	}
	return string(out)
}

// bySaying follows the chapter's words on the sum, from any register on, with none of the package's own functions.
func bySaying(register uint32, s string) uint32 {
	for i := range len(s) {
		register ^= uint32(s[i])
		for range 8 {
			if register%2 == 1 {
				register = register/2 ^ 0x82F63B78
			} else {
				register /= 2
			}
		}
	}
	return register
}

// byLibrary is the sum as Go's own library tells it.
func byLibrary(c uint32, s string) uint32 {
	return crc32.Update(c, crc32.MakeTable(crc32.Castagnoli), []byte(s))
}

// texts are of all lengths up to 300, of all single bytes, and some long ones.
func texts() []string {
	var out []string
	for n := range 301 {
		out = append(out, anyBytes(int64(n), n), strings.Repeat("\x00", n), strings.Repeat("\xff", n))
	}
	for b := range 256 {
		out = append(out, string([]byte{byte(b)}))
	}
	for _, n := range []int{511, 512, 513, 1023, 1024, 1025, 4096, 65537, 100001} {
		out = append(out, anyBytes(int64(n), n))
	}
	return out
}

func wantJoin(t *testing.T, a, b uint32, n int, want uint32) {
	t.Helper()
	if got := Join(a, b, n); got != want {
		t.Errorf("Join(%08X, %08X, %d) = %08X; want %08X", a, b, n, got, want)
	}
}

// Examples of the chapter.
func TestExamples(t *testing.T) {
	for _, tell := range []func(string) uint32{Bits, Table} {
		if got := tell("123456789"); got != 0xE3069283 {
			t.Errorf("the sum of 123456789 is %08X", got)
		}
		if got := tell(""); got != 0 {
			t.Errorf("the sum of nothing is %08X", got)
		}
	}
}

// P2.1
func TestKnown(t *testing.T) {
	for _, x := range known {
		if got := Bits(x.s); got != x.want {
			t.Errorf("Bits(%q) = %08X; want %08X", x.s, got, x.want)
		}
		if got := Table(x.s); got != x.want {
			t.Errorf("Table(%q) = %08X; want %08X", x.s, got, x.want)
		}
		if got := More(0, x.s); got != x.want {
			t.Errorf("More(0, %q) = %08X; want %08X", x.s, got, x.want)
		}
	}
}

// P2.1
func TestBitsAndTableAreTheSame(t *testing.T) {
	for _, s := range texts() {
		want := ^bySaying(0xFFFFFFFF, s)
		if library := byLibrary(0, s); library != want {
			t.Fatalf("of %d bytes: the library tells %08X, the chapter's words %08X", len(s), library, want)
		}
		if got := Bits(s); got != want {
			t.Fatalf("Bits of %d bytes = %08X; want %08X", len(s), got, want)
		}
		if got := Table(s); got != want {
			t.Fatalf("Table of %d bytes = %08X; want %08X", len(s), got, want)
		}
	}
}

// P2.1: what is in the register at first is told by c alone, so any c at all is a sum ahead.
func TestMoreBehindAnySum(t *testing.T) {
	for _, c := range edges {
		for _, s := range texts() {
			want := ^bySaying(^c, s)
			if got := More(c, s); got != want || got != byLibrary(c, s) {
				t.Fatalf("More(%08X, %d bytes) = %08X; want %08X", c, len(s), got, want)
			}
		}
	}
}

// P2.1
func TestMoreWithNothingBehind(t *testing.T) {
	for _, c := range edges {
		if got := More(c, ""); got != c {
			t.Errorf("More(%08X, nothing) = %08X", c, got)
		}
	}
	for bit := range 32 {
		if got := More(1<<bit, ""); got != 1<<bit {
			t.Errorf("More(%08X, nothing) = %08X", uint32(1)<<bit, got)
		}
	}
}

// P2.1: wherever bytes are cut, the second piece goes on where the first one ended.
func TestMoreAtAnyCut(t *testing.T) {
	for _, n := range []int{1, 2, 9, 100, 257} {
		s := anyBytes(int64(-n), n)
		for cut := range n + 1 {
			if got := More(Bits(s[:cut]), s[cut:]); got != Bits(s) {
				t.Fatalf("of %d bytes, cut at %d: %08X; want %08X", n, cut, got, Bits(s))
			}
		}
	}
	parts := uint32(0)
	for i := range 9 {
		parts = More(parts, "123456789"[i:i+1])
	}
	if parts != 0xE3069283 {
		t.Errorf("byte by byte: %08X", parts)
	}
}

// P2.2: as the promise says it, of sums that need not be those of any text at hand.
func TestJoinAsSaid(t *testing.T) {
	for _, n := range []int{0, 1, 2, 3, 4, 5, 8, 31, 32, 33, 255, 256, 257, 1024, 4096, 65536, 99999, 100000} {
		zeros := strings.Repeat("\x00", n)
		alone := ^bySaying(0xFFFFFFFF, zeros)
		for _, a := range edges {
			behind := ^bySaying(^a, zeros)
			for _, b := range edges {
				wantJoin(t, a, b, n, b^behind^alone)
			}
		}
	}
}

// P2.2: all lengths below 0 are 0, and of 0 both sums are of bytes that nothing follows.
func TestJoinOfNoLength(t *testing.T) {
	for _, n := range []int{0, -1, -2, -100000, math.MinInt32, math.MinInt + 1, math.MinInt} {
		for _, a := range edges {
			for _, b := range edges {
				wantJoin(t, a, b, n, a^b)
			}
		}
	}
}

// P2.2: all lengths above 100000 are 100000.
func TestJoinOfTooGreatLength(t *testing.T) {
	zeros := strings.Repeat("\x00", 100000)
	for _, a := range []uint32{0, 1, 0xE3069283, 0xFFFFFFFF} {
		for _, b := range []uint32{0, 0x80000000, 0xE3069283} {
			want := b ^ ^bySaying(^a, zeros) ^ ^bySaying(0xFFFFFFFF, zeros)
			for _, n := range []int{100000, 100001, 100002, 200000, 1 << 31, 1 << 32, math.MaxInt - 1, math.MaxInt} {
				wantJoin(t, a, b, n, want)
			}
		}
	}
	below := 0xE3069283 ^ ^bySaying(^uint32(1), zeros[1:]) ^ ^bySaying(0xFFFFFFFF, zeros[1:])
	wantJoin(t, 1, 0xE3069283, 99999, below)
	if below == Join(1, 0xE3069283, 100000) {
		t.Error("99999 and 100000 bytes are told as the same")
	}
}

// P2.3
func TestTwoTextsAreToldByTheirSums(t *testing.T) {
	firsts := []string{"", "\x00", "a", "123456789", strings.Repeat("\x00", 40), strings.Repeat("\xff", 5), anyBytes(1, 100), anyBytes(2, 1024)}
	for _, first := range firsts {
		for _, second := range texts() {
			if len(second) > 100000 {
				continue
			}
			wantJoin(t, Bits(first), Table(second), len(second), Bits(first+second))
		}
	}
	longest := anyBytes(3, 100000)
	for _, first := range firsts {
		wantJoin(t, Bits(first), Bits(longest), 100000, Bits(first+longest))
	}
}

// P2.3: the sums of three texts are joined the same from either end.
func TestJoinFromEitherEnd(t *testing.T) {
	a, b, c := anyBytes(4, 50), anyBytes(5, 77), anyBytes(6, 300)
	want := Bits(a + b + c)
	wantJoin(t, Join(Bits(a), Bits(b), len(b)), Bits(c), len(c), want)
	wantJoin(t, Bits(a), Join(Bits(b), Bits(c), len(c)), len(b)+len(c), want)
}

// otherBytes answers s, changed by exclusive or with up to four bytes at a place.
func otherBytes(s string, at int, change string) string {
	out := []byte(s)
	for i := range len(change) {
		out[at+i] ^= change[i]
	}
	return string(out)
}

// P2.3: all changes of one byte and many of two to four, at every place.
func TestOtherBytesHaveAnotherSum(t *testing.T) {
	for _, s := range []string{strings.Repeat("\x00", 24), strings.Repeat("\xff", 24), anyBytes(7, 24)} {
		want := Bits(s)
		for at := range len(s) {
			for change := 1; change < 256; change++ {
				for width := 1; width <= min(4, len(s)-at); width++ {
					tail := string([]byte{byte(change), byte(change * 7), byte(change * 31), byte(255 - change)}[4-width:])
					other := otherBytes(s, at, tail)
					if other != s && (Bits(other) == want || Table(other) == want) {
						t.Fatalf("%q and %q have one sum", s, other)
					}
				}
			}
		}
	}
}

// P2.3: each single bit of four bytes changes the sum by bits of its own, so that no mix of them leaves it.
// As a sum changes by exclusive or of what each bit changes, 32 changes of full rank tell it for all changes of four bytes.
func TestNoChangeOfFourBytesLeavesTheSum(t *testing.T) {
	for _, length := range []int{4, 5, 16, 128, 1024} {
		s := anyBytes(int64(8*length), length)
		for at := 0; at+4 <= length; at += max(1, length/16) {
			var changes []uint32
			for bit := range 32 {
				change := [4]byte{}
				change[bit/8] = 1 << (bit % 8)
				changes = append(changes, Bits(s)^Bits(otherBytes(s, at, string(change[:]))))
			}
			if got := rank(changes); got != 32 {
				t.Fatalf("of %d bytes, at %d: rank %d; want 32", length, at, got)
			}
		}
	}
}

// rank answers how many of the numbers no exclusive or of others tells.
func rank(numbers []uint32) int {
	var leads [32]uint32
	count := 0
	for _, n := range numbers {
		for bit := 31; bit >= 0 && n != 0; bit-- {
			if n>>bit == 0 {
				continue
			}
			if leads[bit] == 0 {
				leads[bit] = n
				count++
				n = 0
				continue
			}
			n ^= leads[bit]
		}
	}
	return count
}
