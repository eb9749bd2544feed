package key

import (
	"cmp"
	"math"
	"math/rand"
	"slices"
	"strings"
	"testing"

	"withy/api"
	"withy/col"
)

func null() col.Col               { return col.Col{Kind: col.Null} }
func no() col.Col                 { return col.Col{Kind: col.Bool} }
func yes() col.Col                { return col.Col{Kind: col.Bool, U: 1} }
func whole(n int64) col.Col       { return col.Col{Kind: col.Int, I: n} }
func count(n uint64) col.Col      { return col.Col{Kind: col.Uint, U: n} }
func text(s string) col.Col       { return col.Col{Kind: col.Text, S: s} }
func list(l ...col.Col) []col.Col { return l }

// known are keys, rising, with their bytes written out by hand: of no column, of one of each Kind, and of many.
var known = []struct {
	l []col.Col
	s string
}{
	{nil, "\x01"},
	{list(null()), "\x10\x01"},
	{list(null(), null()), "\x10\x10\x01"},
	{list(null(), null(), null()), "\x10\x10\x10\x01"},
	{list(null(), yes()), "\x10\x21\x01"},
	{list(no()), "\x20\x01"},
	{list(no(), text("")), "\x20\x50\x00\x01\x01"},
	{list(yes()), "\x21\x01"},
	{list(yes(), null(), text("a")), "\x21\x10\x50a\x00\x01\x01"},
	{list(whole(math.MinInt64)), "\x30\x00\x00\x00\x00\x00\x00\x00\x00\x01"},
	{list(whole(-1)), "\x30\x7f\xff\xff\xff\xff\xff\xff\xff\x01"},
	{list(whole(0)), "\x30\x80\x00\x00\x00\x00\x00\x00\x00\x01"},
	{list(whole(0), no()), "\x30\x80\x00\x00\x00\x00\x00\x00\x00\x20\x01"},
	{list(whole(1)), "\x30\x80\x00\x00\x00\x00\x00\x00\x01\x01"},
	{list(whole(math.MaxInt64)), "\x30\xff\xff\xff\xff\xff\xff\xff\xff\x01"},
	{list(count(0)), "\x40\x00\x01"},
	{list(count(1)), "\x40\x01\x01"},
	{list(count(1), count(1)), "\x40\x01\x40\x01\x01"},
	{list(count(241)), "\x40\xf1\x01\x01"},
	{list(count(67824), whole(-2)), "\x40\xfa\x01\x08\xf0\x30\x7f\xff\xff\xff\xff\xff\xff\xfe\x01"},
	{list(count(math.MaxUint64)), "\x40\xff\xff\xff\xff\xff\xff\xff\xff\xff\x01"},
	{list(text("")), "\x50\x00\x01\x01"},
	{list(text(""), text("")), "\x50\x00\x01\x50\x00\x01\x01"},
	{list(text("\x00")), "\x50\x00\xff\x00\x01\x01"},
	{list(text("\x01")), "\x50\x01\x00\x01\x01"},
	{list(text("a")), "\x50a\x00\x01\x01"},
	{list(text("a"), null(), yes(), whole(5), count(6), text("b")), "\x50a\x00\x01\x10\x21\x30\x80\x00\x00\x00\x00\x00\x00\x05\x40\x06\x50b\x00\x01\x01"},
	{list(text("a"), text("b")), "\x50a\x00\x01\x50b\x00\x01\x01"},
	{list(text("a\x00")), "\x50a\x00\xff\x00\x01\x01"},
	{list(text("a\x00\x01")), "\x50a\x00\xff\x01\x00\x01\x01"},
	{list(text("a\x01")), "\x50a\x01\x00\x01\x01"},
	{list(text("ab")), "\x50ab\x00\x01\x01"},
	{list(text("\xff")), "\x50\xff\x00\x01\x01"},
	{list(text("\xff\xff"), text("\xff")), "\x50\xff\xff\x00\x01\x50\xff\x00\x01\x01"},
}

// wrong are columns that may not be, of each Kind, and of none.
var wrong = []col.Col{
	{Kind: col.Null, I: 1}, {Kind: col.Null, U: 1}, {Kind: col.Null, S: "a"},
	{Kind: col.Bool, U: 2}, {Kind: col.Bool, U: math.MaxUint64}, {Kind: col.Bool, I: -1}, {Kind: col.Bool, S: "\x00"},
	{Kind: col.Int, U: 1}, {Kind: col.Int, S: "a"},
	{Kind: col.Uint, I: 1}, {Kind: col.Uint, S: "a"},
	{Kind: col.Text, I: 1}, {Kind: col.Text, U: 1, S: "a"},
	{Kind: col.Kinds}, {Kind: -1}, {Kind: math.MaxInt}, {Kind: math.MinInt},
}

// lists answers all lists of up to a length of the columns given, in no order.
func lists(of []col.Col, length int) [][]col.Col {
	out := [][]col.Col{nil}
	for from := 0; length > 0; length-- {
		last := out[from:]
		from = len(out)
		for _, l := range last {
			for _, c := range of {
				out = append(out, append(slices.Clone(l), c))
			}
		}
	}
	return out
}

// few are columns of each Kind, the edges of each and texts that begin one another.
func few() []col.Col {
	return list(null(), no(), yes(), whole(math.MinInt64), whole(-1), whole(1), count(0), count(1), count(math.MaxUint64), text(""), text("\x00"), text("\x01"), text("a"), text("\xff"))
}

// spread are many keys, in no order.
func spread() [][]col.Col {
	out := lists(few(), 2)
	out = append(out, lists(list(null(), count(1), text(""), text("\x00"), text("\x01\x01")), 4)...)
	for _, x := range known {
		out = append(out, x.l)
	}
	source := rand.New(rand.NewSource(4))
	for range 300 {
		out = append(out, anyKey(source, source.Intn(9)))
	}
	return append(out, anyKey(source, 1000), slices.Repeat(list(null()), 4096), slices.Repeat(list(text("\x00\x01\xff")), 1000))
}

// anyKey answers columns that hang on the source alone.
func anyKey(source *rand.Rand, length int) []col.Col {
	var l []col.Col
	for range length {
		n := source.Uint64() >> source.Intn(64)
		s := make([]byte, source.Intn(6))
		for i := range s {
			s[i] = "\x00\x01\x10\x50a\xff"[source.Intn(6)]
		}
		l = append(l, list(null(), no(), yes(), whole(int64(n)), whole(-int64(n)), count(n), text(string(s)))[source.Intn(7)])
	}
	return l
}

// texts answers all texts of up to a length whose bytes are some of those given.
func texts(of string, length int) []string {
	out := []string{""}
	for from := 0; length > 0; length-- {
		last := out[from:]
		from = len(out)
		for _, s := range last {
			for i := range len(of) {
				out = append(out, s+of[i:i+1])
			}
		}
	}
	return out
}

// columnBytes answers a column's own bytes.
func columnBytes(t *testing.T, c col.Col) string {
	t.Helper()
	s, e := col.Put(c)
	if e != api.OK {
		t.Fatalf("col.Put(%+v) = %q, %d", c, s, e)
	}
	return s
}

// bytesOf follows the chapter's words on a key's bytes.
func bytesOf(t *testing.T, l []col.Col) string {
	t.Helper()
	s := ""
	for _, c := range l {
		s += columnBytes(t, c)
	}
	return s + "\x01"
}

// keyOf follows the chapter's words on Get.
func keyOf(s string) ([]col.Col, api.Errno) {
	switch {
	case s == "":
		return nil, api.ErrShort
	case s == "\x01":
		return nil, api.OK
	case s[0] == 1:
		return nil, api.ErrForm
	}
	c, to, e := col.Get(s, 0)
	if e != api.OK {
		return nil, e
	}
	rest, e := keyOf(s[to:])
	if e != api.OK {
		return nil, e
	}
	return append(list(c), rest...), api.OK
}

// order follows the chapter's words on Compare.
func order(a, b []col.Col) int {
	for i := 0; i < len(a) && i < len(b); i++ {
		if a[i] != b[i] {
			return col.Compare(a[i], b[i])
		}
	}
	return cmp.Compare(len(a), len(b))
}

func put(t *testing.T, l []col.Col) string {
	t.Helper()
	s, e := Put(l)
	if e != api.OK {
		t.Fatalf("Put(%+v) = %q, %d", l, s, e)
	}
	return s
}

func wantPut(t *testing.T, l []col.Col, s string, e api.Errno) {
	t.Helper()
	if gotS, gotE := Put(l); gotS != s || gotE != e {
		t.Errorf("Put(%+v) = %q, %d; want %q, %d", l, gotS, gotE, s, e)
	}
}

func wantGet(t *testing.T, s string, l []col.Col, e api.Errno) {
	t.Helper()
	if gotL, gotE := Get(s); !slices.Equal(gotL, l) || gotE != e {
		t.Errorf("Get(%q) = %+v, %d; want %+v, %d", s, gotL, gotE, l, e)
	}
}

func wantPart(t *testing.T, s string, n int, part string, e api.Errno) {
	t.Helper()
	if gotS, gotE := Part(s, n); gotS != part || gotE != e {
		t.Errorf("Part(%q, %d) = %q, %d; want %q, %d", s, n, gotS, gotE, part, e)
	}
}

// wantNone wants an error, and no columns and no bytes beside it, of bytes that are no key's, whatever number of columns is asked for.
func wantNone(t *testing.T, s string, e api.Errno) {
	t.Helper()
	wantGet(t, s, nil, e)
	for _, n := range []int{math.MinInt, -1, 0, 1, 2, 7, math.MaxInt} {
		wantPart(t, s, n, "", e)
	}
}

// Examples of the chapter.
func TestExamples(t *testing.T) {
	wantPut(t, list(null(), yes()), string([]byte{16, 33, 1}), api.OK)
	wantPut(t, nil, string([]byte{1}), api.OK)
	wantGet(t, string([]byte{16, 1, 16}), nil, api.ErrForm)
}

// P4.1
func TestPutKnown(t *testing.T) {
	for _, x := range known {
		wantPut(t, x.l, x.s, api.OK)
	}
	wantPut(t, list(), "\x01", api.OK)
}

// P4.1
func TestPutAsSaid(t *testing.T) {
	for _, l := range spread() {
		if got, want := put(t, l), bytesOf(t, l); got != want {
			t.Fatalf("Put(%+v) = %q; want %q", l, got, want)
		}
	}
}

// P4.1: at each place of lists of each length, alone and behind another one that may not be.
func TestPutWithAColumnThatMayNotBe(t *testing.T) {
	right := few()
	for length := 1; length <= len(right); length++ {
		for at := range length {
			for _, c := range wrong {
				l := slices.Clone(right[:length])
				l[at] = c
				wantPut(t, l, "", api.ErrForm)
				l[0] = wrong[at]
				wantPut(t, l, "", api.ErrForm)
			}
		}
	}
}

// P4.1
func TestGetKnown(t *testing.T) {
	for _, x := range known {
		wantGet(t, x.s, x.l, api.OK)
	}
}

// P4.1: wherever a key's bytes end too early: ahead of the first column, in one, between two, ahead of the byte 1.
func TestGetTooShort(t *testing.T) {
	for _, x := range known {
		for cut := range len(x.s) {
			// A byte 1 within the columns, where one begins, would end a key; there is none.
			wantNone(t, x.s[:cut], api.ErrShort)
		}
	}
	for _, s := range []string{
		"",                                     // ahead of all
		"\x10",                                 // ahead of the byte 1
		"\x10\x21",                             // the same
		"\x50\x00\x01",                         // the same: this byte 1 is the text's
		"\x40\x01",                             // the same: this byte 1 is the number's
		"\x10\x30",                             // in an Int
		"\x10\x30\x01\x01\x01\x01\x01\x01\x01", // in an Int, of bytes 1
		"\x10\x40",                             // in a Uint
		"\x10\x40\xf1",                         // in a Uint
		"\x10\x40\xff\x01\x01",                 // in a Uint, of bytes 1
		"\x10\x50",                             // in a Text
		"\x10\x50a\x01",                        // in a Text, of a byte 1 with no byte 0 ahead
		"\x10\x50a\x00",                        // in a Text's end
		"\x10\x50\x00\xff\x01",                 // in a Text, of a byte 1 behind a byte 0 of its own
	} {
		wantNone(t, s, api.ErrShort)
	}
}

// P4.1: whatever stands behind the byte 1, a key's bytes too.
func TestGetWithMoreBehind(t *testing.T) {
	for _, x := range known {
		for b := range 256 {
			wantNone(t, x.s+string([]byte{byte(b)}), api.ErrForm)
		}
		for _, y := range known {
			wantNone(t, x.s+y.s, api.ErrForm)
		}
		for _, behind := range []string{"\x30\x00", "\x50a", "\x40\xf1\x00", strings.Repeat("\x01", 20), strings.Repeat("\xff", 20)} {
			wantNone(t, x.s+behind, api.ErrForm)
		}
	}
}

// P4.1: col's error of the first column that has one, whichever error the bytes behind it would have.
func TestGetOfAColumnThatIsNone(t *testing.T) {
	behind := []string{"", "\x01", "\x01\x01", "\x10", "\x10\x01", "\x22", "\x30", "\x50a\x00\x02", "\x40\xf1\x00\x01"}
	for b := range 256 {
		if slices.Contains([]int{1, 16, 32, 33, 48, 64, 80}, b) {
			continue
		}
		for _, x := range known {
			for _, tail := range behind {
				wantNone(t, strings.TrimSuffix(x.s, "\x01")+string([]byte{byte(b)})+tail, api.ErrForm)
			}
		}
	}
	for _, bad := range []string{"\x40\xf1\x00", "\x40\xfa\x00\x00\x01", "\x40\xff\x00\x01\x01\x01\x01\x01\x01\x01", "\x50\x00\x00", "\x50\x00\x02", "\x50\x00\xfe", "\x50a\x00\x10", "\x50\x00\xff\x00\x00"} {
		for _, x := range known {
			for _, tail := range behind {
				wantNone(t, strings.TrimSuffix(x.s, "\x01")+bad+tail, api.ErrForm)
			}
		}
	}
}

// P4.1: the first of two errors, of each two that may stand one behind the other.
func TestGetTellsTheFirstError(t *testing.T) {
	for _, x := range []struct {
		s string
		e api.Errno
	}{
		{"\x22", api.ErrForm},
		{"\x00\x30", api.ErrForm},
		{"\x10\x22\x30", api.ErrForm},
		{"\x10\x22\x01\x10", api.ErrForm},
		{"\x50a\x00\x02\x30", api.ErrForm},
		{"\x40\xf1\x00\x40\xf1", api.ErrForm},
		{"\x30\x22\x22\x22", api.ErrShort},
		{"\x40\xff\xff\x22", api.ErrShort},
		{"\x50\x22\x22\x01", api.ErrShort},
		{"\x10\x50\x00\xff\x22", api.ErrShort},
		{"\x01\x30", api.ErrForm},
		{"\x01\x50a", api.ErrForm},
	} {
		wantNone(t, x.s, x.e)
	}
}

// P4.1: all short rows of the bytes that matter, as the chapter's words go.
func TestGetAsSaid(t *testing.T) {
	for _, s := range texts("\x00\x01\x10\x21\x40\x50\xf1\xff", 6) {
		l, e := keyOf(s)
		if gotL, gotE := Get(s); !slices.Equal(gotL, l) || gotE != e {
			t.Fatalf("Get(%q) = %+v, %d; want %+v, %d", s, gotL, gotE, l, e)
		}
	}
	for _, s := range texts("\x01\x10\x20\x22\x50a\x00", 5) {
		s = "\x21\x40\x01" + s
		l, e := keyOf(s)
		if gotL, gotE := Get(s); !slices.Equal(gotL, l) || gotE != e {
			t.Fatalf("Get(%q) = %+v, %d; want %+v, %d", s, gotL, gotE, l, e)
		}
	}
}

// P4.2: known rises, so the places tell the order.
func TestCompareKnown(t *testing.T) {
	for i, x := range known {
		for j, y := range known {
			if got, want := Compare(x.l, y.l), cmp.Compare(i, j); got != want {
				t.Errorf("Compare(%+v, %+v) = %d; want %d", x.l, y.l, got, want)
			}
		}
	}
}

// P4.2: the first two columns that are not the same tell it, whatever stands behind them, and however many.
func TestCompareByTheFirstThatIsNotTheSame(t *testing.T) {
	tails := [][]col.Col{nil, list(null()), list(text("\xff")), list(text("\xff"), null()), list(null(), text("\xff"), yes())}
	for _, same := range [][]col.Col{nil, list(null()), list(text("a"), whole(-1)), list(count(3), text(""), no())} {
		for i, x := range few() {
			for j, y := range few() {
				if i == j {
					continue
				}
				for _, p := range tails {
					for _, q := range tails {
						a := slices.Concat(same, list(x), p)
						b := slices.Concat(same, list(y), q)
						if got, want := Compare(a, b), col.Compare(x, y); got != want {
							t.Fatalf("Compare(%+v, %+v) = %d; want %d", a, b, got, want)
						}
					}
				}
			}
		}
	}
}

// P4.2: of two lists one of which begins the other the one that has fewer is ahead; a list is the same as itself.
func TestCompareOfWhatBeginsAnother(t *testing.T) {
	for _, l := range spread() {
		if got := Compare(l, slices.Clone(l)); got != 0 {
			t.Errorf("Compare(%+v, the same) = %d", l, got)
		}
		for _, c := range few() {
			for n := range min(len(l), 10) + 1 {
				more := append(slices.Clone(l[:n]), c)
				if got := Compare(l[:n], more); got != -1 {
					t.Errorf("Compare(%+v, %+v) = %d; want -1", l[:n], more, got)
				}
				if got := Compare(more, l[:n]); got != 1 {
					t.Errorf("Compare(%+v, %+v) = %d; want 1", more, l[:n], got)
				}
			}
		}
	}
	if got := Compare(nil, list()); got != 0 {
		t.Errorf("Compare(none, none) = %d", got)
	}
}

// P4.2
func TestCompareAsSaid(t *testing.T) {
	all := lists(few(), 2)
	for _, a := range all {
		for _, b := range all {
			if got, want := Compare(a, b), order(a, b); got != want {
				t.Fatalf("Compare(%+v, %+v) = %d; want %d", a, b, got, want)
			}
		}
	}
}

// P4.3: of no column, of some, of all, of more than there are, and of numbers below 0.
func TestPart(t *testing.T) {
	for _, x := range known {
		part := ""
		for n, c := range x.l {
			wantPart(t, x.s, n, part, api.OK)
			part += columnBytes(t, c)
		}
		wantPart(t, x.s, len(x.l), part, api.OK)
		wantPart(t, x.s, len(x.l), strings.TrimSuffix(x.s, "\x01"), api.OK)
		for _, n := range []int{len(x.l) + 1, len(x.l) + 2, len(x.s) + 1, 1 << 32, math.MaxInt, -1, -2, math.MinInt32, math.MinInt} {
			wantPart(t, x.s, n, "", api.ErrArg)
		}
	}
}

// P4.3, by hand.
func TestPartKnown(t *testing.T) {
	s := "\x50a\x00\x01\x10\x21\x30\x80\x00\x00\x00\x00\x00\x00\x05\x40\x06\x50b\x00\x01\x01"
	wantPart(t, s, 0, "", api.OK)
	wantPart(t, s, 1, "\x50a\x00\x01", api.OK)
	wantPart(t, s, 2, "\x50a\x00\x01\x10", api.OK)
	wantPart(t, s, 3, "\x50a\x00\x01\x10\x21", api.OK)
	wantPart(t, s, 4, "\x50a\x00\x01\x10\x21\x30\x80\x00\x00\x00\x00\x00\x00\x05", api.OK)
	wantPart(t, s, 5, "\x50a\x00\x01\x10\x21\x30\x80\x00\x00\x00\x00\x00\x00\x05\x40\x06", api.OK)
	wantPart(t, s, 6, "\x50a\x00\x01\x10\x21\x30\x80\x00\x00\x00\x00\x00\x00\x05\x40\x06\x50b\x00\x01", api.OK)
	wantPart(t, s, 7, "", api.ErrArg)
}

// P4.3: Get's error comes ahead of that of the number, also where it stands behind the first n columns.
func TestPartOfBytesThatAreNoKey(t *testing.T) {
	wantNone(t, "\x10\x21\x22\x01", api.ErrForm)
	wantNone(t, "\x10\x21\x30\x01", api.ErrShort)
	wantNone(t, "\x10\x21", api.ErrShort)
	wantNone(t, "\x10\x21\x01\x01", api.ErrForm)
	for _, s := range texts("\x00\x01\x10\x40\x50", 4) {
		l, e := keyOf(s)
		for n := -2; n < 7; n++ {
			switch {
			case e != api.OK:
				wantPart(t, s, n, "", e)
			case n < 0 || n > len(l):
				wantPart(t, s, n, "", api.ErrArg)
			default:
				wantPart(t, s, n, strings.TrimSuffix(bytesOf(t, l[:n]), "\x01"), api.OK)
			}
		}
	}
}

// P4.4
func TestGotAsPut(t *testing.T) {
	for _, l := range spread() {
		s := put(t, l)
		if got, e := Get(s); !slices.Equal(got, l) || e != api.OK {
			t.Fatalf("Get(Put(%+v)) = %+v, %d", l, got, e)
		}
	}
}

// P4.4: what is got is put as the bytes it was got from, so each key has these bytes alone.
func TestPutAsGot(t *testing.T) {
	for _, s := range texts("\x00\x01\x10\x20\x40\x50\xf1\xff", 6) {
		l, e := Get(s)
		if e != api.OK {
			continue
		}
		if got := put(t, l); got != s {
			t.Fatalf("Get(%q) is %+v, whose bytes are %q", s, l, got)
		}
	}
}

// P4.4
func TestBytesInOrderOfKeys(t *testing.T) {
	keys := append(lists(few(), 2), lists(list(null(), yes(), count(1), text(""), text("\x00"), text("\x01")), 3)...)
	for _, x := range known {
		keys = append(keys, x.l)
	}
	var all []string
	for _, l := range keys {
		all = append(all, put(t, l))
	}
	for i, a := range keys {
		for j, b := range keys {
			want := Compare(a, b)
			if got := strings.Compare(all[i], all[j]); got != want {
				t.Fatalf("%+v and %+v are %d; their bytes are %d", a, b, want, got)
			}
			if want != 0 && strings.HasPrefix(all[i], all[j]) {
				t.Fatalf("the bytes of %+v begin those of %+v", b, a)
			}
		}
	}
}

// P4.4: texts that begin with one text stand side by side in order, so neighbours tell for many keys that none begins another's.
func TestManyKeysInOrder(t *testing.T) {
	keys := append(spread(), lists(few(), 3)...)
	slices.SortFunc(keys, Compare)
	keys = slices.CompactFunc(keys, slices.Equal)
	for i := range len(keys) - 1 {
		a, b := put(t, keys[i]), put(t, keys[i+1])
		if a >= b || strings.HasPrefix(b, a) {
			t.Fatalf("%+v is ahead of %+v; their bytes are %q and %q", keys[i], keys[i+1], a, b)
		}
	}
}

// P4.4: least and greatest bytes behind each key.
func TestBytesInOrderWhateverStandsBehind(t *testing.T) {
	behind := []string{"", "\x00", "\x01", "\x10", "\xff", "\x00\x01", "\x10\x01", strings.Repeat("\xff", 12)}
	for i, x := range known {
		for _, y := range known[i+1:] {
			for _, p := range behind {
				for _, q := range behind {
					if put(t, x.l)+p >= put(t, y.l)+q {
						t.Errorf("%+v with %q behind is not ahead of %+v with %q behind", x.l, p, y.l, q)
					}
				}
			}
		}
	}
}

// P4.4: a key begins with the bytes of another one's first columns just if it begins with the columns.
func TestWhatBeginsWithAKeysFirstColumns(t *testing.T) {
	keys := lists(few(), 2)
	for _, x := range known {
		keys = append(keys, x.l)
	}
	var all []string
	for _, l := range keys {
		all = append(all, put(t, l))
	}
	for i, a := range keys {
		for n := range len(a) + 1 {
			part, e := Part(all[i], n)
			if e != api.OK {
				t.Fatalf("Part(%q, %d) = %d", all[i], n, e)
			}
			for j, b := range keys {
				want := len(b) >= n && slices.Equal(b[:n], a[:n])
				if got := strings.HasPrefix(all[j], part); got != want {
					t.Fatalf("the bytes of %+v begin with those of the first %d of %+v: %v; want %v", b, n, a, got, want)
				}
			}
		}
	}
}

// Lists that are handed in stay as they were, and so does the room behind them.
func TestListsStayAsTheyWere(t *testing.T) {
	room := list(text("a"), count(1), null(), text("kept"), yes())
	before := slices.Clone(room)
	a, b := room[:2], room[:3]
	put(t, a)
	put(t, b)
	Compare(a, b)
	Put(append(b[:2:2], wrong[0]))
	if !slices.Equal(room, before) {
		t.Errorf("%+v became %+v", before, room)
	}
	s := put(t, b)
	room[0] = null()
	wantGet(t, s, before[:3], api.OK)
}

// What is answered is new each time: a change of one answer is seen in no other.
func TestAnswersShareNothing(t *testing.T) {
	for _, x := range known {
		first, _ := Get(x.s)
		second, _ := Get(x.s)
		for i := range first {
			first[i] = text("other")
		}
		first = append(first, text("more"))
		wantGet(t, x.s, x.l, api.OK)
		if !slices.Equal(second, x.l) {
			t.Errorf("Get(%q) became %+v", x.s, second)
		}
	}
}

// A walk over columns may be left at any of them, and an error is the last that it tells.
func TestColumnsMayBeLeft(t *testing.T) {
	for n := range 4 {
		seen := 0
		for range columns("\x10\x20\x21\x10\x22") {
			if seen == n {
				break
			}
			seen++
		}
		if seen != n {
			t.Errorf("left behind %d columns; want %d", seen, n)
		}
	}
	for _, x := range []struct {
		s string
		e api.Errno
	}{{"", api.ErrShort}, {"\x10", api.ErrShort}, {"\x22", api.ErrForm}, {"\x10\x01\x10", api.ErrForm}} {
		errs := 0
		for c, err := range columns(x.s) {
			if err == nil {
				continue
			}
			errs++
			if f, ok := err.(numbered); !ok || f.number() != x.e || err.Error() != x.e.Error() || c != (col.Col{}) {
				t.Errorf("the columns of %q end with %+v, %v", x.s, c, err)
			}
		}
		if errs != 1 {
			t.Errorf("the columns of %q tell %d errors", x.s, errs)
		}
	}
}
