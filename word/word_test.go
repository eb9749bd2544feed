package word

import (
	"math"
	"strings"
	"testing"

	"withy/api"
)

// known are numbers, rising, with their bytes written out by hand: both sides of each edge, and each number of bytes.
var known = []struct {
	n uint64
	s string
}{
	{0, "\x00"},
	{1, "\x01"},
	{97, "a"},
	{239, "\xef"},
	{240, "\xf0"},
	{241, "\xf1\x01"},
	{242, "\xf1\x02"},
	{495, "\xf1\xff"},
	{496, "\xf2\x00"},
	{1000, "\xf3\xf8"},
	{2286, "\xf8\xfe"},
	{2287, "\xf8\xff"},
	{2288, "\xf9\x00\x00"},
	{2289, "\xf9\x00\x01"},
	{2543, "\xf9\x00\xff"},
	{2544, "\xf9\x01\x00"},
	{67822, "\xf9\xff\xfe"},
	{67823, "\xf9\xff\xff"},
	{67824, "\xfa\x01\x08\xf0"},
	{67825, "\xfa\x01\x08\xf1"},
	{0x123456, "\xfa\x12\x34\x56"},
	{1<<24 - 1, "\xfa\xff\xff\xff"},
	{1 << 24, "\xfb\x01\x00\x00\x00"},
	{1<<32 - 1, "\xfb\xff\xff\xff\xff"},
	{1 << 32, "\xfc\x01\x00\x00\x00\x00"},
	{1<<40 - 1, "\xfc\xff\xff\xff\xff\xff"},
	{1 << 40, "\xfd\x01\x00\x00\x00\x00\x00"},
	{1<<48 - 1, "\xfd\xff\xff\xff\xff\xff\xff"},
	{1 << 48, "\xfe\x01\x00\x00\x00\x00\x00\x00"},
	{1<<56 - 1, "\xfe\xff\xff\xff\xff\xff\xff\xff"},
	{1 << 56, "\xff\x01\x00\x00\x00\x00\x00\x00\x00"},
	{0x0123456789abcdef, "\xff\x01\x23\x45\x67\x89\xab\xcd\xef"},
	{1<<63 - 1, "\xff\x7f\xff\xff\xff\xff\xff\xff\xff"},
	{1 << 63, "\xff\x80\x00\x00\x00\x00\x00\x00\x00"},
	{math.MaxUint64 - 1, "\xff\xff\xff\xff\xff\xff\xff\xff\xfe"},
	{math.MaxUint64, "\xff\xff\xff\xff\xff\xff\xff\xff\xff"},
}

// spread are numbers, rising: all up to beyond the last of three bytes, then those around each power of two.
func spread() []uint64 {
	var out []uint64
	for n := range uint64(70000) {
		out = append(out, n)
	}
	for bit := 17; bit < 64; bit++ {
		out = append(out, 1<<bit-1, 1<<bit, 1<<bit+1)
	}
	return append(out, math.MaxUint64-1, math.MaxUint64)
}

func wantGet(t *testing.T, s string, at int, n uint64, to int, e api.Errno) {
	t.Helper()
	gotN, gotTo, gotE := Get(s, at)
	if gotN != n || gotTo != to || gotE != e {
		t.Errorf("Get(%q, %d) = %d, %d, %d; want %d, %d, %d", s, at, gotN, gotTo, gotE, n, to, e)
	}
}

func wantRead(t *testing.T, s string, at int, n uint32, e api.Errno) {
	t.Helper()
	gotN, gotE := Read(s, at)
	if gotN != n || gotE != e {
		t.Errorf("Read(%q, %d) = %d, %d; want %d, %d", s, at, gotN, gotE, n, e)
	}
}

// P1.1
func TestPutKnown(t *testing.T) {
	for _, x := range known {
		if s := Put(x.n); s != x.s {
			t.Errorf("Put(%d) = %q; want %q", x.n, s, x.s)
		}
	}
}

// P1.1
func TestSizeKnown(t *testing.T) {
	for _, x := range known {
		if got := Size(x.n); got != len(x.s) {
			t.Errorf("Size(%d) = %d; want %d", x.n, got, len(x.s))
		}
	}
}

// P1.1
func TestSizeIsThatOfPut(t *testing.T) {
	for _, n := range spread() {
		if got, want := Size(n), len(Put(n)); got != want {
			t.Fatalf("Size(%d) = %d; Put has %d", n, got, want)
		}
	}
}

// P1.1
func TestGetKnown(t *testing.T) {
	for _, x := range known {
		wantGet(t, x.s, 0, x.n, len(x.s), api.OK)
		wantGet(t, "\xff\xffab"+x.s, 4, x.n, 4+len(x.s), api.OK)
		wantGet(t, "\xf1"+x.s+"\x00\xff", 1, x.n, 1+len(x.s), api.OK)
	}
}

// P1.1
func TestGetOneBehindAnother(t *testing.T) {
	var all strings.Builder
	for _, x := range known {
		all.WriteString(x.s)
	}
	at := 0
	for _, x := range known {
		wantGet(t, all.String(), at, x.n, at+len(x.s), api.OK)
		at += len(x.s)
	}
	wantGet(t, all.String(), at, 0, 0, api.ErrShort)
}

// P1.1
func TestGetPlaceThatCannotBe(t *testing.T) {
	for _, s := range []string{"", "a", "\xf1", "\xff\x00", "abcdefghij"} {
		for _, at := range []int{-1, -2, math.MinInt, len(s) + 1, len(s) + 2, math.MaxInt} {
			wantGet(t, s, at, 0, 0, api.ErrArg)
		}
	}
}

// P1.1: of each first byte, one byte too few, down to none.
func TestGetTooShort(t *testing.T) {
	asks := func(first int) int {
		switch {
		case first <= 240:
			return 1
		case first <= 248:
			return 2
		}
		return first - 246
	}
	for first := range 256 {
		for _, fill := range []string{"\x00", "\x01", "\xff"} {
			whole := string([]byte{byte(first)}) + strings.Repeat(fill, asks(first)-1)
			for cut := range len(whole) {
				wantGet(t, whole[:cut], 0, 0, 0, api.ErrShort)
				wantGet(t, "xyz"+whole[:cut], 3, 0, 0, api.ErrShort)
			}
			if _, _, e := Get(whole, 0); e == api.ErrShort {
				t.Errorf("Get(%q, 0) = ErrShort; no byte is missing", whole)
			}
		}
	}
}

// P1.1: bytes that tell a number that has others.
func TestGetNotItsOwnBytes(t *testing.T) {
	for _, s := range []string{
		"\xf1\x00",                             // 240
		"\xfa\x00\x00\x00",                     // 0
		"\xfa\x00\x00\x01",                     // 1, as the chapter has it
		"\xfa\x00\x00\xf1",                     // 241
		"\xfa\x00\x08\xf0",                     // 2288
		"\xfa\x00\xff\xff",                     // 65535
		"\xfa\x01\x00\x00",                     // 65536, no zeros ahead
		"\xfa\x01\x08\xef",                     // 67823, no zeros ahead
		"\xfb\x00\x01\x08\xf0",                 // 67824
		"\xfb\x00\xff\xff\xff",                 // 2^24 - 1
		"\xfc\x00\xff\xff\xff\xff",             // 2^32 - 1
		"\xfd\x00\xff\xff\xff\xff\xff",         // 2^40 - 1
		"\xfe\x00\xff\xff\xff\xff\xff\xff",     // 2^48 - 1
		"\xff\x00\xff\xff\xff\xff\xff\xff\xff", // 2^56 - 1
		"\xff\x00\x00\x00\x00\x00\x00\x00\x00", // 0
		"\xff\x00\x00\x00\x00\x00\x00\x00\x01", // 1
	} {
		wantGet(t, s, 0, 0, 0, api.ErrForm)
		wantGet(t, "ab"+s+"c", 2, 0, 0, api.ErrForm)
	}
}

// P1.1: all rows of two and three bytes, and of four those around the least number that has four.
func TestGetTellsOrRejects(t *testing.T) {
	for first := 241; first <= 248; first++ {
		for b := range 256 {
			s := string([]byte{byte(first), byte(b)})
			if first == 241 && b == 0 {
				wantGet(t, s, 0, 0, 0, api.ErrForm)
				continue
			}
			wantGet(t, s, 0, uint64(240+256*(first-241)+b), 2, api.OK)
		}
	}
	for n := range 65536 {
		wantGet(t, string([]byte{249, byte(n >> 8), byte(n)}), 0, uint64(2288+n), 3, api.OK)
	}
	for n := range uint64(70000) {
		s := string([]byte{250, byte(n >> 16), byte(n >> 8), byte(n)})
		if n <= 67823 {
			wantGet(t, s, 0, 0, 0, api.ErrForm)
		} else {
			wantGet(t, s, 0, n, 4, api.OK)
		}
	}
}

// P1.2
func TestFour(t *testing.T) {
	for _, x := range []struct {
		n uint32
		s string
	}{
		{0, "\x00\x00\x00\x00"},
		{1, "\x01\x00\x00\x00"},
		{255, "\xff\x00\x00\x00"},
		{256, "\x00\x01\x00\x00"},
		{1 << 16, "\x00\x00\x01\x00"},
		{1 << 24, "\x00\x00\x00\x01"},
		{0x01020304, "\x04\x03\x02\x01"},
		{0xfedcba98, "\x98\xba\xdc\xfe"},
		{math.MaxInt32, "\xff\xff\xff\x7f"},
		{1 << 31, "\x00\x00\x00\x80"},
		{math.MaxUint32, "\xff\xff\xff\xff"},
	} {
		if s := Four(x.n); s != x.s {
			t.Errorf("Four(%d) = %q; want %q", x.n, s, x.s)
		}
		wantRead(t, x.s, 0, x.n, api.OK)
		wantRead(t, "abc"+x.s+"\xff", 3, x.n, api.OK)
	}
}

// P1.2
func TestReadWrong(t *testing.T) {
	for _, s := range []string{"", "a", "abc", "abcd", "abcdefgh"} {
		for _, at := range []int{-1, -4, math.MinInt, len(s) + 1, len(s) + 4, math.MaxInt} {
			wantRead(t, s, at, 0, api.ErrArg)
		}
		for at := max(0, len(s)-3); at <= len(s); at++ {
			wantRead(t, s, at, 0, api.ErrShort)
		}
	}
	wantRead(t, "abcdefgh", 4, 0x68676665, api.OK)
}

// P1.3
func TestBytesInOrderOfNumbers(t *testing.T) {
	numbers := spread()
	for i := range len(numbers) - 1 {
		a, b := Put(numbers[i]), Put(numbers[i+1])
		if a >= b {
			t.Fatalf("Put(%d) = %q is not below Put(%d) = %q", numbers[i], a, numbers[i+1], b)
		}
	}
	for i, x := range known {
		for j, y := range known {
			if (Put(x.n) < Put(y.n)) != (i < j) {
				t.Errorf("Put(%d) and Put(%d) are not in order", x.n, y.n)
			}
		}
	}
}

// P1.3: texts that begin with one text stand side by side in order, so neighbours tell it for all.
func TestNoBytesBeginOthers(t *testing.T) {
	numbers := spread()
	for i := range len(numbers) - 1 {
		a, b := Put(numbers[i]), Put(numbers[i+1])
		if strings.HasPrefix(b, a) {
			t.Fatalf("Put(%d) = %q begins Put(%d) = %q", numbers[i], a, numbers[i+1], b)
		}
	}
	for _, x := range known {
		for _, y := range known {
			if x.n != y.n && strings.HasPrefix(Put(x.n), Put(y.n)) {
				t.Errorf("Put(%d) begins Put(%d)", y.n, x.n)
			}
		}
	}
}

// P1.3
func TestGotAsPut(t *testing.T) {
	for _, n := range spread() {
		s := Put(n)
		if got, to, e := Get(s, 0); got != n || to != len(s) || e != api.OK {
			t.Fatalf("Get(Put(%d), 0) = %d, %d, %d", n, got, to, e)
		}
	}
	for bit := range 32 {
		n := uint32(1)<<bit - 1
		wantRead(t, Four(n), 0, n, api.OK)
		wantRead(t, Four(^n), 0, ^n, api.OK)
	}
}

// Examples of the chapter.
func TestExamples(t *testing.T) {
	for _, x := range []struct {
		n    uint64
		want []byte
	}{
		{240, []byte{240}},
		{241, []byte{241, 1}},
		{67824, []byte{250, 1, 8, 240}},
	} {
		if got := Put(x.n); got != string(x.want) {
			t.Errorf("Put(%d) = %q; want %q", x.n, got, x.want)
		}
	}
	wantGet(t, string([]byte{250, 0, 0, 1}), 0, 0, 0, api.ErrForm)
}
