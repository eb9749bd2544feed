package sep

import (
	"math/rand"
	"slices"
	"strings"
	"testing"

	"withy/api"
)

// texts answers all texts of up to a length whose bytes are some of those given, in no order.
func texts(of string, length int) []string {
	out := []string{""}
	for from := 0; length > 0; length-- {
		last := out[from:]
		from = len(out)
		for _, s := range last {
			for i := range len(of) {
				out = append(out, s+of[i:i+1])
			}
		}
	}
	return out
}

// all are texts of few bytes among which are the least, the greatest, and those where a sign would turn.
func all() []string { return texts("\x00\x7f\x80\xff", 4) }

// everyByte is a text of bytes of all values.
func everyByte() string {
	out := make([]byte, 256)
	for i := range out {
		out[i] = byte(i)
	}
	return string(out)
}

// inCommon follows the chapter's words: the greatest number of bytes at which all texts begin with the same.
func inCommon(l ...string) int {
	best := 0
	if len(l) == 0 {
		return 0
	}
	for n := range len(l[0]) + 1 {
		if !slices.ContainsFunc(l, func(s string) bool { return !strings.HasPrefix(s, l[0][:n]) }) {
			best = n
		}
	}
	return best
}

// parts tells whether s is above a, and not above b.
func parts(a, b, s string) bool { return a < s && s <= b }

// P5.1: what two texts have in common, known by hand.
func TestCommonKnown(t *testing.T) {
	long := strings.Repeat("key", 4096)
	for _, x := range []struct {
		a, b string
		want int
	}{
		{"abc", "abd", 2}, {"", "", 0}, {"", "a", 0}, {"a", "", 0}, {"a", "a", 1}, {"a", "b", 0},
		{"abc", "abc", 3}, {"ab", "abc", 2}, {"abc", "ab", 2}, {"a", "abc", 1}, {"xbc", "abc", 0}, {"axc", "abc", 1},
		{"\x00", "", 0}, {"\x00", "\x00", 1}, {"\x00", "\x00\x00", 1}, {"\x7f", "\xff", 0}, {"\x80", "\x00", 0}, {"\xff\xff", "\xff\xfe", 1},
		{"é", "è", 1}, {"\xff\xfe", "\xff\xfe\x00", 2}, {"abcab", "abdab", 2},
		{long, long, len(long)}, {long + "a", long + "b", len(long)}, {long, long[1:], 0}, {long, long[:len(long)-1], len(long) - 1},
	} {
		if n := Common(x.a, x.b); n != x.want {
			t.Errorf("Common(%.20q, %.20q) = %d, not %d", x.a, x.b, n, x.want)
		}
	}
}

// P5.1: bytes of all values are held against each other as they are.
func TestCommonBytes(t *testing.T) {
	whole := everyByte()
	for a := range 256 {
		for b := range 256 {
			want := 1
			if a == b {
				want = 3
			}
			if n := Common("k"+whole[a:a+1]+"k", "k"+whole[b:b+1]+"k"); n != want {
				t.Fatalf("of bytes %d and %d, between others: %d", a, b, n)
			}
		}
		other := []byte(whole)
		other[a] ^= 0x80
		if n := Common(whole, string(other)); n != a {
			t.Fatalf("of texts that part at %d: %d", a, n)
		}
		if n := Common(whole, whole[:a]); n != a {
			t.Fatalf("of a text and its first %d: %d", a, n)
		}
	}
}

// P5.1: all pairs of short texts, both ways.
func TestCommonAll(t *testing.T) {
	l := all()
	for _, a := range l {
		for _, b := range l {
			if n := Common(a, b); n != inCommon(a, b) {
				t.Fatalf("Common(%q, %q) = %d", a, b, n)
			}
		}
	}
}

// P5.1: what many texts have in common, known by hand, and what is left of them.
func TestSpanStripKnown(t *testing.T) {
	for _, x := range []struct {
		l    []string
		head string
		rest []string
	}{
		{nil, "", nil},
		{[]string{}, "", nil},
		{[]string{""}, "", []string{""}},
		{[]string{"abc"}, "abc", []string{""}},
		{[]string{"abc", "abd"}, "ab", []string{"c", "d"}},
		{[]string{"abd", "abc"}, "ab", []string{"d", "c"}},
		{[]string{"abc", "abc", "abc"}, "abc", []string{"", "", ""}},
		{[]string{"", ""}, "", []string{"", ""}},
		{[]string{"", "abc", "abd"}, "", []string{"", "abc", "abd"}},
		{[]string{"abc", "", "abd"}, "", []string{"abc", "", "abd"}},
		{[]string{"abc", "abd", ""}, "", []string{"abc", "abd", ""}},
		{[]string{"a", "ab", "abc"}, "a", []string{"", "b", "bc"}},
		{[]string{"abc", "ab", "a"}, "a", []string{"bc", "b", ""}},
		{[]string{"abc", "xbc"}, "", []string{"abc", "xbc"}},
		{[]string{"abcx", "abcy", "abdx", "abcx"}, "ab", []string{"cx", "cy", "dx", "cx"}},
		{[]string{"abdx", "abcx", "abcy", "abcx"}, "ab", []string{"dx", "cx", "cy", "cx"}},
		{[]string{"abcx", "acd", "abcx"}, "a", []string{"bcx", "cd", "bcx"}},
		{[]string{"\x00\x00", "\x00", "\x00\xff"}, "\x00", []string{"\x00", "", "\xff"}},
		{[]string{"key000", "key001", "key024"}, "key0", []string{"00", "01", "24"}},
		{[]string{everyByte() + "a", everyByte()}, everyByte(), []string{"a", ""}},
	} {
		if n := Span(x.l); n != len(x.head) {
			t.Errorf("Span(%q) = %d, not %d", x.l, n, len(x.head))
		}
		if head, rest := Strip(x.l); head != x.head || !slices.Equal(rest, x.rest) {
			t.Errorf("Strip(%q) = %q, %q", x.l, head, rest)
		}
	}
}

// P5.1: all lists of three short texts, and many of more, held against the chapter's words.
func TestSpanStripAll(t *testing.T) {
	few := texts("a\xff", 3)
	var lists [][]string
	for _, a := range few {
		for _, b := range few {
			for _, c := range few {
				lists = append(lists, []string{a, b, c})
			}
		}
	}
	source := rand.New(rand.NewSource(5))
	for range 2000 {
		head := all()[source.Intn(341)]
		var l []string
		for range source.Intn(9) {
			l = append(l, head+all()[source.Intn(341)])
		}
		lists = append(lists, l)
	}
	lists = append(lists, slices.Repeat([]string{"abc"}, 4096), append(slices.Repeat([]string{"abc"}, 4096), "abd"), append([]string{"a"}, slices.Repeat([]string{"abc"}, 4096)...))
	for _, l := range lists {
		n := inCommon(l...)
		if got := Span(l); got != n {
			t.Fatalf("Span(%.60q) = %d, not %d", l, got, n)
		}
		head, rest := Strip(l)
		if len(head) != n || len(rest) != len(l) {
			t.Fatalf("Strip(%.60q) = %q, %d texts", l, head, len(rest))
		}
		for i, s := range rest {
			if head+s != l[i] {
				t.Fatalf("Strip(%.60q) = %q, and %q at %d", l, head, s, i)
			}
		}
	}
}

// P5.1: of two texts Span and Common tell the same, whichever is ahead.
func TestSpanOfTwo(t *testing.T) {
	for _, a := range texts("\x00a\xff", 3) {
		for _, b := range texts("\x00a\xff", 3) {
			if n := Common(a, b); Span([]string{a, b}) != n || Common(b, a) != n || Span([]string{a, b, a}) != n {
				t.Fatalf("%q and %q", a, b)
			}
		}
	}
}

// P5.1, R4: what is handed in stays as it was, the room behind it too; and the answer shares none with it, nor with another answer.
func TestListsStay(t *testing.T) {
	room := []string{"abc", "abd", "ab", "behind", "it"}
	was := slices.Clone(room)
	l := room[:3]
	Span(l)
	_, one := Strip(l)
	_, two := Strip(l)
	if !slices.Equal(room, was) {
		t.Fatalf("what was handed in is %q", room)
	}
	for _, rest := range [][]string{one, two} {
		rest = rest[:cap(rest)]
		for i := range rest {
			rest[i] = "changed"
		}
		if !slices.Equal(room, was) {
			t.Fatalf("what was handed in shares memory with the answer: %q", room)
		}
	}
	_, one = Strip(l)
	_, two = Strip(l)
	one[0] = "changed"
	if two[0] != "c" {
		t.Fatal("two answers share memory")
	}
	l[0] = "xyz"
	if !slices.Equal(two, []string{"c", "d", ""}) {
		t.Fatalf("the answer changed with what was handed in: %q", two)
	}
	single := []string{"abc", "behind"}
	if _, rest := Strip(single[:1]); len(append(rest, "x")) != 2 || single[0] != "abc" || single[1] != "behind" {
		t.Fatalf("one text, handed in, is %q", single)
	}
}

// P5.2: least texts, known by hand.
func TestLeastKnown(t *testing.T) {
	long := strings.Repeat("key", 4096)
	for _, x := range []struct{ a, b, want string }{
		{"abc", "abde", "abd"}, {"ab", "abc", "abc"}, {"ab", "abcde", "abc"}, {"", "a", "a"}, {"", "abc", "a"}, {"", "\x00", "\x00"},
		{"\x00", "\x00\x00", "\x00\x00"}, {"\x00", "\x01", "\x01"}, {"a", "b", "b"}, {"a", "bcd", "b"}, {"abc", "b", "b"},
		{"a\xff", "b", "b"}, {"a\xff\xff", "b\x00", "b"}, {"\x7f", "\x80", "\x80"}, {"\x7fz", "\x80z", "\x80"}, {"\xfe", "\xff\xff", "\xff"}, {"\xff", "\xff\xff", "\xff\xff"}, {"\xff", "\xff\x00a", "\xff\x00"},
		{"key013", "key014", "key014"}, {"key009", "key010", "key01"}, {"key099", "key100", "key1"},
		{long, long + "a", long + "a"}, {long + "a", long + "bc", long + "b"}, {long, "l" + long, "l"},
	} {
		if s, e := Least(x.a, x.b); s != x.want || e != api.OK {
			t.Errorf("Least(%.20q, %.20q) = %.20q, %d", x.a, x.b, s, e)
		}
	}
}

// P5.2, R3: of texts that don't rise the answer is ErrInput, and nothing beside it.
func TestLeastWrong(t *testing.T) {
	for _, x := range [][2]string{
		{"", ""}, {"a", ""}, {"a", "a"}, {"abc", "abc"}, {"abc", "ab"}, {"abd", "abc"}, {"b", "abc"}, {"\x00", ""}, {"\x00\x00", "\x00"}, {"\x80", "\x7f"}, {"\xff", "\xfe\xff"}, {"\xff", "\xff"}, {everyByte(), everyByte()},
	} {
		if s, e := Least(x[0], x[1]); s != "" || e != api.ErrInput {
			t.Errorf("Least(%q, %q) = %q, %d", x[0], x[1], s, e)
		}
	}
}

// P5.2: bytes of all values, by one and by more.
func TestLeastBytes(t *testing.T) {
	whole := everyByte()
	for a := range 256 {
		for b := range 256 {
			s, e := Least("k"+whole[a:a+1]+"m", "k"+whole[b:b+1]+"l")
			if a < b && (s != "k"+whole[b:b+1] || e != api.OK) || a >= b && (s != "" || e != api.ErrInput) {
				t.Fatalf("of bytes %d and %d: %q, %d", a, b, s, e)
			}
		}
	}
}

// P5.2: all pairs of short texts: it is b's first Common(a, b) bytes and one more; it is above a, and not above b.
func TestLeastAll(t *testing.T) {
	l := all()
	for _, a := range l {
		for _, b := range l {
			s, e := Least(a, b)
			if a >= b {
				if s != "" || e != api.ErrInput {
					t.Fatalf("Least(%q, %q) = %q, %d", a, b, s, e)
				}
				continue
			}
			if e != api.OK || s != b[:inCommon(a, b)+1] || !parts(a, b, s) {
				t.Fatalf("Least(%q, %q) = %q, %d", a, b, s, e)
			}
		}
	}
}

// P5.3: with an upper end and without, at both ends, below and above, known by hand.
func TestBetweenKnown(t *testing.T) {
	for _, x := range []struct {
		s, low, high string
		ends, want   bool
	}{
		{"b", "a", "c", true, true}, {"b", "a", "c", false, true},
		{"a", "a", "c", true, true}, {"a", "a", "c", false, true},
		{"c", "a", "c", true, false}, {"c", "a", "c", false, true},
		{"d", "a", "c", true, false}, {"d", "a", "c", false, true},
		{"Z", "a", "c", true, false}, {"Z", "a", "c", false, false},
		{"", "a", "c", true, false}, {"", "a", "", false, false},
		{"", "", "a", true, true}, {"", "", "", true, false}, {"", "", "", false, true}, {"a", "", "", false, true}, {"a", "", "", true, false},
		{"bzz", "a", "c", true, true}, {"c\x00", "a", "c", true, false}, {"a\x00", "a", "a\x00", true, false}, {"a", "a", "a\x00", true, true}, {"a", "a\x00", "b", true, false},
		{"b", "c", "a", true, false}, {"b", "c", "a", false, false}, {"d", "c", "a", true, false}, {"d", "c", "a", false, true},
		{"\x80", "\x7f", "\xff", true, true}, {"\xff", "\x7f", "\x80", true, false}, {"\xff\xff", "\xff", "", false, true}, {"\x7f", "\x80", "\xff", true, false},
	} {
		if got := Between(x.s, x.low, x.high, x.ends); got != x.want {
			t.Errorf("Between(%q, %q, %q, %t) = %t", x.s, x.low, x.high, x.ends, got)
		}
	}
}

// P5.3: all threes of short texts, the order told by the bytes one by one.
func TestBetweenAll(t *testing.T) {
	l := texts("\x00\x80\xff", 2)
	for _, s := range l {
		for _, low := range l {
			for _, high := range l {
				fromLow, belowHigh := order(s, low) >= 0, order(s, high) < 0
				if Between(s, low, high, true) != (fromLow && belowHigh) || Between(s, low, high, false) != fromLow {
					t.Fatalf("%q between %q and %q", s, low, high)
				}
			}
		}
	}
}

// order holds two texts against each other byte by byte.
func order(a, b string) int {
	for i := range min(len(a), len(b)) {
		if a[i] != b[i] {
			return int(a[i]) - int(b[i])
		}
	}
	return len(a) - len(b)
}

// P5.4: what stands between two texts has in common with both what these have.
func TestBetweenHasTheSameAhead(t *testing.T) {
	l := texts("\x00a\xff", 3)
	slices.Sort(l)
	for i, a := range l {
		for _, b := range l[i:] {
			n := Common(a, b)
			for _, s := range l {
				if s != b && !Between(s, a, b, true) {
					continue
				}
				if Common(s, a) < n || Common(s, b) < n || Span([]string{a, s, b}) != n {
					t.Fatalf("%q between %q and %q", s, a, b)
				}
			}
		}
	}
}

// P5.4: the least text parts the two, and no shorter one does.
func TestNoShorterOneParts(t *testing.T) {
	l := texts("\x00a\xff", 3)
	shorter := texts("\x00\x01`ab\xfe\xff", 3)
	for _, a := range l {
		for _, b := range l {
			s, e := Least(a, b)
			if e != api.OK {
				continue
			}
			if !parts(a, b, s) || !Between(b, s, "", false) || Between(a, s, "", false) {
				t.Fatalf("Least(%q, %q) = %q, which doesn't part them", a, b, s)
			}
			for _, x := range shorter {
				if len(x) < len(s) && parts(a, b, x) {
					t.Fatalf("Least(%q, %q) = %q, but %q parts them too", a, b, s, x)
				}
			}
		}
	}
}

// R5: one answer, however often it is asked for.
func TestOneAnswer(t *testing.T) {
	l := []string{"abc", "abd", "ab"}
	for range 3 {
		head, rest := Strip(l)
		s, e := Least("abc", "abde")
		if head != "ab" || !slices.Equal(rest, []string{"c", "d", ""}) || s != "abd" || e != api.OK || Span(l) != 2 || Common("abc", "abd") != 2 || !Between("b", "a", "c", true) {
			t.Fatal("another answer")
		}
	}
}
