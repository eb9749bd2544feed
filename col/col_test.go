package col

import (
	"math"
	"math/rand"
	"strings"
	"testing"

	"withy/api"
	"withy/word"
)

// known are columns, rising, with their bytes written out by hand.
var known = []struct {
	c Col
	s string
}{
	{Col{Kind: Null}, "\x10"},
	{Col{Kind: Bool}, "\x20"},
	{Col{Kind: Bool, U: 1}, "\x21"},
	{Col{Kind: Int, I: math.MinInt64}, "\x30\x00\x00\x00\x00\x00\x00\x00\x00"},
	{Col{Kind: Int, I: math.MinInt64 + 1}, "\x30\x00\x00\x00\x00\x00\x00\x00\x01"},
	{Col{Kind: Int, I: -1 << 62}, "\x30\x40\x00\x00\x00\x00\x00\x00\x00"},
	{Col{Kind: Int, I: -1 << 32}, "\x30\x7f\xff\xff\xff\x00\x00\x00\x00"},
	{Col{Kind: Int, I: -256}, "\x30\x7f\xff\xff\xff\xff\xff\xff\x00"},
	{Col{Kind: Int, I: -2}, "\x30\x7f\xff\xff\xff\xff\xff\xff\xfe"},
	{Col{Kind: Int, I: -1}, "\x30\x7f\xff\xff\xff\xff\xff\xff\xff"},
	{Col{Kind: Int}, "\x30\x80\x00\x00\x00\x00\x00\x00\x00"},
	{Col{Kind: Int, I: 1}, "\x30\x80\x00\x00\x00\x00\x00\x00\x01"},
	{Col{Kind: Int, I: 255}, "\x30\x80\x00\x00\x00\x00\x00\x00\xff"},
	{Col{Kind: Int, I: 256}, "\x30\x80\x00\x00\x00\x00\x00\x01\x00"},
	{Col{Kind: Int, I: 0x0123456789abcdef}, "\x30\x81\x23\x45\x67\x89\xab\xcd\xef"},
	{Col{Kind: Int, I: math.MaxInt64 - 1}, "\x30\xff\xff\xff\xff\xff\xff\xff\xfe"},
	{Col{Kind: Int, I: math.MaxInt64}, "\x30\xff\xff\xff\xff\xff\xff\xff\xff"},
	{Col{Kind: Uint}, "\x40\x00"},
	{Col{Kind: Uint, U: 1}, "\x40\x01"},
	{Col{Kind: Uint, U: 2}, "\x40\x02"},
	{Col{Kind: Uint, U: 240}, "\x40\xf0"},
	{Col{Kind: Uint, U: 241}, "\x40\xf1\x01"},
	{Col{Kind: Uint, U: 2287}, "\x40\xf8\xff"},
	{Col{Kind: Uint, U: 2288}, "\x40\xf9\x00\x00"},
	{Col{Kind: Uint, U: 67823}, "\x40\xf9\xff\xff"},
	{Col{Kind: Uint, U: 67824}, "\x40\xfa\x01\x08\xf0"},
	{Col{Kind: Uint, U: 1 << 32}, "\x40\xfc\x01\x00\x00\x00\x00"},
	{Col{Kind: Uint, U: math.MaxInt64}, "\x40\xff\x7f\xff\xff\xff\xff\xff\xff\xff"},
	{Col{Kind: Uint, U: 1 << 63}, "\x40\xff\x80\x00\x00\x00\x00\x00\x00\x00"},
	{Col{Kind: Uint, U: math.MaxUint64}, "\x40\xff\xff\xff\xff\xff\xff\xff\xff\xff"},
	{Col{Kind: Text}, "\x50\x00\x01"},
	{Col{Kind: Text, S: "\x00"}, "\x50\x00\xff\x00\x01"},
	{Col{Kind: Text, S: "\x00\x00"}, "\x50\x00\xff\x00\xff\x00\x01"},
	{Col{Kind: Text, S: "\x00\x01"}, "\x50\x00\xff\x01\x00\x01"},
	{Col{Kind: Text, S: "\x00a"}, "\x50\x00\xffa\x00\x01"},
	{Col{Kind: Text, S: "\x00\xff"}, "\x50\x00\xff\xff\x00\x01"},
	{Col{Kind: Text, S: "\x01"}, "\x50\x01\x00\x01"},
	{Col{Kind: Text, S: "\x01\x00"}, "\x50\x01\x00\xff\x00\x01"},
	{Col{Kind: Text, S: "a"}, "\x50a\x00\x01"},
	{Col{Kind: Text, S: "a\x00"}, "\x50a\x00\xff\x00\x01"},
	{Col{Kind: Text, S: "a\x00\x01"}, "\x50a\x00\xff\x01\x00\x01"},
	{Col{Kind: Text, S: "a\x00b"}, "\x50a\x00\xffb\x00\x01"},
	{Col{Kind: Text, S: "a\x01"}, "\x50a\x01\x00\x01"},
	{Col{Kind: Text, S: "aa"}, "\x50aa\x00\x01"},
	{Col{Kind: Text, S: "ab"}, "\x50ab\x00\x01"},
	{Col{Kind: Text, S: "b"}, "\x50b\x00\x01"},
	{Col{Kind: Text, S: "\x80"}, "\x50\x80\x00\x01"},
	{Col{Kind: Text, S: "\xff"}, "\x50\xff\x00\x01"},
	{Col{Kind: Text, S: "\xff\x00"}, "\x50\xff\x00\xff\x00\x01"},
	{Col{Kind: Text, S: "\xff\xff"}, "\x50\xff\xff\x00\x01"},
}

// wrong are columns that may not be: each field of each Kind that must be 0 or empty, a Bool that is neither, and Kinds that are none.
var wrong = []Col{
	{Kind: Null, I: 1}, {Kind: Null, I: -1}, {Kind: Null, I: math.MinInt64},
	{Kind: Null, U: 1}, {Kind: Null, U: math.MaxUint64},
	{Kind: Null, S: "a"}, {Kind: Null, S: "\x00"},
	{Kind: Bool, U: 2}, {Kind: Bool, U: 3}, {Kind: Bool, U: 16}, {Kind: Bool, U: 256}, {Kind: Bool, U: 257},
	{Kind: Bool, U: 1 << 32}, {Kind: Bool, U: 1<<32 + 1}, {Kind: Bool, U: 1 << 63}, {Kind: Bool, U: math.MaxUint64},
	{Kind: Bool, I: 1}, {Kind: Bool, I: -1, U: 1}, {Kind: Bool, I: math.MinInt64},
	{Kind: Bool, S: "a"}, {Kind: Bool, U: 1, S: "\x00"},
	{Kind: Int, U: 1}, {Kind: Int, I: 5, U: 5}, {Kind: Int, I: -1, U: math.MaxUint64},
	{Kind: Int, S: "a"}, {Kind: Int, I: -7, S: "\x00"},
	{Kind: Uint, I: 1}, {Kind: Uint, I: 5, U: 5}, {Kind: Uint, I: math.MinInt64, U: 1 << 63},
	{Kind: Uint, S: "a"}, {Kind: Uint, U: 7, S: "\x00"},
	{Kind: Text, I: 1}, {Kind: Text, I: -1, S: "a"}, {Kind: Text, I: math.MinInt64, S: "a"},
	{Kind: Text, U: 1}, {Kind: Text, U: 1, S: "a"}, {Kind: Text, U: 1 << 63, S: "\x00"},
	{Kind: Kinds}, {Kind: Kinds + 1}, {Kind: -1}, {Kind: -2}, {Kind: 16}, {Kind: 80}, {Kind: 256}, {Kind: 1 << 32},
	{Kind: math.MaxInt}, {Kind: math.MinInt},
	{Kind: Kinds, S: "a"}, {Kind: -1, I: 1}, {Kind: -1, U: 1},
}

// texts answers all texts of up to a length whose bytes are some of those given.
func texts(of string, length int) []string {
	out := []string{""}
	for from := 0; length > 0; length-- {
		last := out[from:]
		from = len(out)
		for _, s := range last {
			for i := range len(of) {
				out = append(out, s+of[i:i+1])
			}
		}
	}
	return out
}

// spread are many columns that may be, in no order.
func spread() []Col {
	var out []Col
	for _, x := range known {
		out = append(out, x.c)
	}
	for bit := range 64 {
		n := uint64(1) << bit
		for _, n := range []uint64{n - 1, n, n + 1, -n} {
			out = append(out, Col{Kind: Int, I: int64(n)}, Col{Kind: Uint, U: n})
		}
	}
	for b := range 256 {
		s := string([]byte{byte(b)})
		out = append(out, Col{Kind: Text, S: s}, Col{Kind: Text, S: s + "\x00"}, Col{Kind: Text, S: "\x00" + s}, Col{Kind: Text, S: "xy" + s + "z"})
	}
	for _, s := range texts("\x00\x01a\xff", 4) {
		out = append(out, Col{Kind: Text, S: s})
	}
	source := rand.New(rand.NewSource(3))
	for range 300 {
		text := make([]byte, source.Intn(9))
		for i := range text {
			text[i] = byte(source.Intn(256))
		}
		n := source.Uint64() >> source.Intn(64)
		out = append(out, Col{Kind: Text, S: string(text)}, Col{Kind: Int, I: int64(n)}, Col{Kind: Int, I: -int64(n)}, Col{Kind: Uint, U: n})
	}
	return append(out, Col{Kind: Text, S: strings.Repeat("\x00", 4096)}, Col{Kind: Text, S: strings.Repeat("a\x00\xff", 4096)})
}

// bytesOf follows the chapter's words on a column's bytes.
func bytesOf(c Col) []byte {
	switch c.Kind {
	case Null:
		return []byte{16}
	case Bool:
		return []byte{32 + byte(c.U)}
	case Int:
		n := uint64(c.I) ^ 1<<63
		return []byte{48, byte(n >> 56), byte(n >> 48), byte(n >> 40), byte(n >> 32), byte(n >> 24), byte(n >> 16), byte(n >> 8), byte(n)}
	case Uint:
		return append([]byte{64}, word.Put(c.U)...)
	}
	out := []byte{80}
	for i := range len(c.S) {
		out = append(out, c.S[i])
		if c.S[i] == 0 {
			out = append(out, 255)
		}
	}
	return append(out, 0, 1)
}

// textAt follows the chapter's words on a Text whose bytes stand behind the place of its first one.
func textAt(s string, at int) (Col, int, api.Errno) {
	text := ""
	for i := at + 1; i < len(s); i++ {
		ahead := i > at+1 && s[i-1] == 0
		if ahead && s[i] == 1 {
			return Col{Kind: Text, S: strings.ReplaceAll(text[:len(text)-1], "\x00\xff", "\x00")}, i + 1, api.OK
		}
		if ahead && s[i] != 255 {
			return Col{}, 0, api.ErrForm
		}
		text += s[i : i+1]
	}
	return Col{}, 0, api.ErrShort
}

func put(t *testing.T, c Col) string {
	t.Helper()
	s, e := Put(c)
	if e != api.OK {
		t.Fatalf("Put(%+v) = %q, %d", c, s, e)
	}
	return s
}

func wantGet(t *testing.T, s string, at int, c Col, to int, e api.Errno) {
	t.Helper()
	gotC, gotTo, gotE := Get(s, at)
	if gotC != c || gotTo != to || gotE != e {
		t.Errorf("Get(%q, %d) = %+v, %d, %d; want %+v, %d, %d", s, at, gotC, gotTo, gotE, c, to, e)
	}
}

// wantNone wants an error at the beginning of s, and wherever else s stands behind other bytes.
func wantNone(t *testing.T, s string, e api.Errno) {
	t.Helper()
	for _, ahead := range []string{"", "\x00", "\x10\x50a", "\x50\x00"} {
		wantGet(t, ahead+s, len(ahead), Col{}, 0, e)
	}
}

// Examples of the chapter.
func TestExamples(t *testing.T) {
	for _, x := range []struct {
		c    Col
		want []byte
	}{
		{Col{Kind: Int, I: -1}, []byte{48, 127, 255, 255, 255, 255, 255, 255, 255}},
		{Col{Kind: Text, S: "\x00a"}, []byte{80, 0, 255, 97, 0, 1}},
	} {
		if s, e := Put(x.c); s != string(x.want) || e != api.OK {
			t.Errorf("Put(%+v) = %q, %d; want %q", x.c, s, e, x.want)
		}
		wantGet(t, string(x.want), 0, x.c, len(x.want), api.OK)
	}
}

// The Kinds' numbers, as they are given.
func TestKinds(t *testing.T) {
	if got, want := [6]int{Null, Bool, Int, Uint, Text, Kinds}, [6]int{0, 1, 2, 3, 4, 5}; got != want {
		t.Errorf("the Kinds are %v; want %v", got, want)
	}
}

// P3.1
func TestRight(t *testing.T) {
	for _, c := range spread() {
		if !Right(c) {
			t.Errorf("Right(%+v) = false", c)
		}
	}
	for _, c := range wrong {
		if Right(c) {
			t.Errorf("Right(%+v) = true", c)
		}
	}
}

// P3.1: of a Bool all of U counts, each bit of it.
func TestRightOfBools(t *testing.T) {
	for bit := range 64 {
		for _, low := range []uint64{0, 1} {
			c := Col{Kind: Bool, U: low | 1<<bit}
			if got, want := Right(c), bit == 0; got != want {
				t.Errorf("Right(%+v) = %v", c, got)
			}
		}
	}
}

// P3.1: one field more than the Kind names, each with numbers of each bit and texts of each byte.
func TestRightWithOneFieldTooMuch(t *testing.T) {
	for _, x := range []Col{{Kind: Null}, {Kind: Bool}, {Kind: Bool, U: 1}, {Kind: Int, I: 9}, {Kind: Uint, U: 9}, {Kind: Text, S: "a"}} {
		for n := range 256 {
			withI, withU, withS := x, x, x
			withI.I, withU.U, withS.S = 1<<(n%64), 1<<(n%64), string([]byte{byte(n)})
			if got := Right(withI); got != (x.Kind == Int) {
				t.Errorf("Right(%+v) = %v", withI, got)
			}
			if got := Right(withU); got != (x.Kind == Uint || x.Kind == Bool && n%64 == 0) {
				t.Errorf("Right(%+v) = %v", withU, got)
			}
			if got := Right(withS); got != (x.Kind == Text) {
				t.Errorf("Right(%+v) = %v", withS, got)
			}
		}
	}
}

// P3.1: known rises, so the places tell the order, within each Kind and between them.
func TestCompare(t *testing.T) {
	for i, x := range known {
		for j, y := range known {
			want := 0
			if i < j {
				want = -1
			} else if i > j {
				want = 1
			}
			if got := Compare(x.c, y.c); got != want {
				t.Errorf("Compare(%+v, %+v) = %d; want %d", x.c, y.c, got, want)
			}
		}
	}
}

// P3.1: numbers and texts of two Kinds do not count, only the Kinds do.
func TestCompareByKindFirst(t *testing.T) {
	rising := []Col{
		{Kind: Null},
		{Kind: Bool, U: 1},
		{Kind: Int, I: math.MaxInt64},
		{Kind: Uint},
		{Kind: Text},
	}
	falling := []Col{
		{Kind: Null},
		{Kind: Bool},
		{Kind: Int, I: math.MinInt64},
		{Kind: Uint, U: math.MaxUint64},
		{Kind: Text, S: "\xff\xff"},
	}
	for i, a := range rising {
		for j, b := range falling {
			if i == j {
				continue
			}
			want := 1
			if i < j {
				want = -1
			}
			if got := Compare(a, b); got != want {
				t.Errorf("Compare(%+v, %+v) = %d; want %d", a, b, got, want)
			}
			if got := Compare(b, a); got != -want {
				t.Errorf("Compare(%+v, %+v) = %d; want %d", b, a, got, -want)
			}
		}
	}
}

// P3.1
func TestCompareOfManyNumbersAndTexts(t *testing.T) {
	sign := func(ahead, behind bool) int {
		switch {
		case ahead:
			return -1
		case behind:
			return 1
		}
		return 0
	}
	columns := spread()
	for _, a := range columns {
		for _, b := range columns {
			if a.Kind != b.Kind {
				continue
			}
			want := 0
			switch a.Kind {
			case Bool, Uint:
				want = sign(a.U < b.U, a.U > b.U)
			case Int:
				want = sign(a.I < b.I, a.I > b.I)
			case Text:
				want = strings.Compare(a.S, b.S)
			}
			if got := Compare(a, b); got != want {
				t.Fatalf("Compare(%+v, %+v) = %d; want %d", a, b, got, want)
			}
		}
	}
}

// P3.2
func TestPutKnown(t *testing.T) {
	for _, x := range known {
		if s, e := Put(x.c); s != x.s || e != api.OK {
			t.Errorf("Put(%+v) = %q, %d; want %q", x.c, s, e, x.s)
		}
	}
}

// P3.2
func TestPutAsSaid(t *testing.T) {
	for _, c := range spread() {
		if got, want := put(t, c), string(bytesOf(c)); got != want {
			t.Errorf("Put(%+v) = %q; want %q", c, got, want)
		}
	}
}

// P3.2
func TestPutWrong(t *testing.T) {
	for _, c := range wrong {
		if s, e := Put(c); s != "" || e != api.ErrForm {
			t.Errorf("Put(%+v) = %q, %d; want nothing, ErrForm", c, s, e)
		}
	}
}

// P3.2
func TestGetKnown(t *testing.T) {
	for _, x := range known {
		wantGet(t, x.s, 0, x.c, len(x.s), api.OK)
		for _, ahead := range []string{"\x00", "\x50", "\x30\xff", "\x50a\x00", "\x40\xff\xff"} {
			for _, behind := range []string{"", "\x00", "\x01", "\xff", "\x00\x01", "\x22", "\x50\x00\x02"} {
				wantGet(t, ahead+x.s+behind, len(ahead), x.c, len(ahead)+len(x.s), api.OK)
			}
		}
	}
}

// P3.2
func TestGetPlaceThatCannotBe(t *testing.T) {
	for _, s := range []string{"", "\x10", "\x22", "\x30", "\x50a\x00\x01", "\x50a\x00\x02"} {
		for _, at := range []int{-1, -2, math.MinInt, math.MinInt + 1, len(s) + 1, len(s) + 2, math.MaxInt - 1, math.MaxInt} {
			wantGet(t, s, at, Col{}, 0, api.ErrArg)
		}
	}
}

// P3.2: each column's bytes, with one byte too few, down to none.
func TestGetTooShort(t *testing.T) {
	wantNone(t, "", api.ErrShort)
	for _, x := range known {
		for cut := range len(x.s) {
			wantNone(t, x.s[:cut], api.ErrShort)
		}
	}
}

// P3.2: of each first byte, nothing behind it, and more than any column asks for.
func TestGetFirstByte(t *testing.T) {
	for first := range 256 {
		s := string([]byte{byte(first)})
		long := s + strings.Repeat("\x00\x01", 10)
		switch first {
		case 16:
			wantGet(t, s, 0, Col{Kind: Null}, 1, api.OK)
			wantGet(t, long, 0, Col{Kind: Null}, 1, api.OK)
		case 32, 33:
			wantGet(t, s, 0, Col{Kind: Bool, U: uint64(first - 32)}, 1, api.OK)
			wantGet(t, long, 0, Col{Kind: Bool, U: uint64(first - 32)}, 1, api.OK)
		case 48:
			wantNone(t, s, api.ErrShort)
			wantGet(t, long, 0, Col{Kind: Int, I: math.MinInt64 + 0x0001000100010001}, 9, api.OK)
		case 64:
			wantNone(t, s, api.ErrShort)
			wantGet(t, long, 0, Col{Kind: Uint}, 2, api.OK)
		case 80:
			wantNone(t, s, api.ErrShort)
			wantGet(t, long, 0, Col{Kind: Text}, 3, api.OK)
		default:
			wantNone(t, s, api.ErrForm)
			wantNone(t, long, api.ErrForm)
		}
	}
}

// P3.2: any eight bytes are an Int's.
func TestGetAnyInt(t *testing.T) {
	source := rand.New(rand.NewSource(4))
	for range 1000 {
		want := Col{Kind: Int, I: int64(source.Uint64())}
		s := string(bytesOf(want))
		wantGet(t, s, 0, want, 9, api.OK)
		wantGet(t, s+s, 9, want, 18, api.OK)
		wantNone(t, s[:8], api.ErrShort)
	}
}

// P3.2: of any bytes, at any place, an error stands alone, and a column that may be has the place behind its bytes beside it.
func TestGetOfAnyBytes(t *testing.T) {
	source := rand.New(rand.NewSource(5))
	likely := "\x00\x01\xff\x10\x20\x21\x22\x30\x40\x50\xf1\xfa"
	for range 2000 {
		row := make([]byte, source.Intn(20))
		for i := range row {
			row[i] = byte(source.Intn(256))
			if source.Intn(3) > 0 {
				row[i] = likely[source.Intn(len(likely))]
			}
		}
		s := string(row)
		for at := range len(s) + 1 {
			c, to, e := Get(s, at)
			if e != api.OK {
				wantGet(t, s, at, Col{}, 0, e)
			} else if !Right(c) || s[at:to] != string(bytesOf(c)) {
				t.Errorf("Get(%q, %d) = %+v, %d", s, at, c, to)
			}
		}
	}
}

// P3.2: what a Uint's number tells is what the column tells, be it ErrShort, ErrForm or the number.
func TestGetUintAsItsNumber(t *testing.T) {
	for _, s := range texts("\x00\x01\xf0\xf1\xf8\xf9\xfa\xfb\xff", 4) {
		n, to, e := word.Get(s, 0)
		if e != api.OK {
			wantNone(t, "\x40"+s, e)
			continue
		}
		wantGet(t, "\x40"+s, 0, Col{Kind: Uint, U: n}, to+1, api.OK)
		wantGet(t, "\x00\x01\x40"+s, 2, Col{Kind: Uint, U: n}, to+3, api.OK)
	}
}

// P3.2
func TestGetUintWrong(t *testing.T) {
	for _, s := range []string{
		"\x40\xf1\x00",
		"\x40\xfa\x00\x00\x01",
		"\x40\xfa\x01\x08\xef",
		"\x40\xfb\x00\xff\xff\xff",
		"\x40\xff\x00\xff\xff\xff\xff\xff\xff\xff",
	} {
		wantNone(t, s, api.ErrForm)
		wantNone(t, s+"\x00\x01", api.ErrForm)
		wantNone(t, s[:len(s)-1], api.ErrShort)
	}
}

// P3.2: behind a byte 0 each byte but 255 and 1 is wrong, whatever follows, or if nothing does.
func TestGetTextWrong(t *testing.T) {
	for b := range 256 {
		if b == 1 || b == 255 {
			continue
		}
		s := string([]byte{0, byte(b)})
		for _, ahead := range []string{"", "a", "\xff", "\x01", "\x00\xff", "a\x00\xffb"} {
			for _, behind := range []string{"", "\x00", "\x00\x01", "\x01", "\xff", "a\x00\x01"} {
				wantNone(t, "\x50"+ahead+s+behind, api.ErrForm)
			}
		}
	}
}

// P3.2: the end ahead of a wrong byte, and a wrong byte ahead of the end.
func TestGetTextWhicheverComesFirst(t *testing.T) {
	for _, x := range []struct {
		s string
		e api.Errno
	}{
		{"\x50", api.ErrShort},
		{"\x50\x00", api.ErrShort},
		{"\x50\x01", api.ErrShort},
		{"\x50\xff", api.ErrShort},
		{"\x50\x00\xff", api.ErrShort},
		{"\x50\x00\xff\x01", api.ErrShort},
		{"\x50\x00\xff\x00", api.ErrShort},
		{"\x50\x00\xff\xff\x01", api.ErrShort},
		{"\x50a\x01\x00", api.ErrShort},
		{"\x50\x00\x00", api.ErrForm},
		{"\x50\x00\x00\x01", api.ErrForm},
		{"\x50\x00\x00\xff", api.ErrForm},
		{"\x50\x00\x02", api.ErrForm},
		{"\x50\x00\xfe", api.ErrForm},
		{"\x50\x00a\x00\x01", api.ErrForm},
		{"\x50\x00\xff\x00\x02", api.ErrForm},
		{"\x50\x00\xff\x00\x00", api.ErrForm},
		{"\x50a\x00\x02bcd", api.ErrForm},
	} {
		wantNone(t, x.s, x.e)
	}
	wantGet(t, "\x50\x00\x01\x00\x02", 0, Col{Kind: Text}, 3, api.OK)
	wantGet(t, "\x50\x00\x01\x00", 0, Col{Kind: Text}, 3, api.OK)
}

// P3.2: all short rows of the bytes that matter in a Text, as the chapter's words go.
func TestGetTextAsSaid(t *testing.T) {
	for _, s := range texts("\x00\x01\x02a\xff", 7) {
		s = "\x50" + s
		c, to, e := textAt(s, 0)
		wantGet(t, s, 0, c, to, e)
	}
}

// P3.3
func TestGotAsPut(t *testing.T) {
	for _, c := range spread() {
		s := put(t, c)
		for _, ahead := range []string{"", "\x10", "\x50\x00", "\xff\xff\xff"} {
			for _, behind := range []string{"", "\x00", "\x01", "\xff", "\x10", "\x00\x01\xff"} {
				wantGet(t, ahead+s+behind, len(ahead), c, len(ahead)+len(s), api.OK)
			}
		}
	}
}

// P3.3
func TestGotOneBehindAnother(t *testing.T) {
	columns := spread()
	var all strings.Builder
	for _, c := range columns {
		all.WriteString(put(t, c))
	}
	at := 0
	for _, want := range columns {
		c, to, e := Get(all.String(), at)
		if c != want || to != at+len(put(t, want)) || e != api.OK {
			t.Fatalf("at %d: %+v, %d, %d; want %+v", at, c, to, e, want)
		}
		at = to
	}
	if c, to, e := Get(all.String(), at); c != (Col{}) || to != 0 || e != api.ErrShort {
		t.Errorf("at the end: %+v, %d, %d", c, to, e)
	}
}

// P3.3: what is got is put as the bytes it was got from, so each column has these bytes alone.
func TestPutAsGot(t *testing.T) {
	for _, s := range texts("\x00\x01\x10\x20\x21\x40\x50\xf1\xff", 5) {
		c, to, e := Get(s, 0)
		if e != api.OK {
			continue
		}
		if got := put(t, c); got != s[:to] {
			t.Fatalf("Get(%q, 0) is %+v, whose bytes are %q", s, c, got)
		}
	}
}

// P3.3: least and greatest bytes behind each column.
func TestBytesInOrderOfColumns(t *testing.T) {
	behind := []string{"", "\x00", "\x01", "\xff", "\x00\x01", strings.Repeat("\xff", 12)}
	columns := spread()
	var all []string
	for _, c := range columns {
		all = append(all, put(t, c))
	}
	for i, a := range columns {
		for j, b := range columns {
			want := Compare(a, b)
			if got := strings.Compare(all[i], all[j]); got != want {
				t.Fatalf("%+v and %+v are %d; their bytes are %d", a, b, want, got)
			}
			if want != 0 && strings.HasPrefix(all[i], all[j]) {
				t.Fatalf("the bytes of %+v begin those of %+v", b, a)
			}
		}
	}
	for i, x := range known {
		for j, y := range known {
			if i >= j {
				continue
			}
			for _, p := range behind {
				for _, q := range behind {
					if put(t, x.c)+p >= put(t, y.c)+q {
						t.Errorf("%+v with %q behind is not ahead of %+v with %q behind", x.c, p, y.c, q)
					}
				}
			}
		}
	}
}
