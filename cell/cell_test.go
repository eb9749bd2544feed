package cell

import (
	"math"
	"math/rand"
	"slices"
	"strconv"
	"strings"
	"testing"
	"unsafe"

	"withy/api"
	"withy/word"
)

// suffixes are suffixes that may be: some of them look like fields of a cell.
var suffixes = []string{"", "a", "\x00", "\x01", "ab", "\x00\x00", "\x01a\x00\x00", "\x00\x01\x01\x01\x00\x00\x00", "\xff\xff", strings.Repeat("s", 127), strings.Repeat("\x00", 127), strings.Repeat("s", 128), strings.Repeat("\xff", 128)}

// goodValues are values that may be.
var goodValues = []Value{
	{},
	{S: "a"},
	{S: "bc"},
	{S: "\x00"},
	{S: "\x01"},
	{S: "\x00\x00\x00"},
	{S: "\x01\x01\x01\x00\x00\x00"},
	{S: strings.Repeat("v", 239)},
	{S: strings.Repeat("v", 240)},
	{S: strings.Repeat("v", 241)},
	{S: strings.Repeat("\x00", 255)},
	{S: strings.Repeat("v", 256)},
	{Over: true, Len: 1, Page: 1},
	{Over: true, Len: 1, Page: 4095},
	{Over: true, Len: 4096, Page: 1},
	{Over: true, Len: 4096, Page: 4095},
	{Over: true, Len: 240, Page: 255},
	{Over: true, Len: 241, Page: 256},
	{Over: true, Len: 257, Page: 257},
	{Over: true, Len: 2287, Page: 2},
	{Over: true, Len: 2288, Page: 3},
	{Over: true, Len: 4095, Page: 4094},
}

// great are numbers that are far from all that may be.
var great = []int{math.MinInt, math.MinInt + 1, -1 << 32, -1<<32 + 1, -65535, -4096, -2, -1, 1 << 16, 1<<16 + 1, 1<<31 - 1, 1 << 31, 1<<32 - 1, 1 << 32, 1<<32 + 1, 1<<32 + 4096, 1 << 62, math.MaxInt - 1, math.MaxInt}

// badValues answers values that may not be.
func badValues() []Value {
	out := []Value{
		{S: strings.Repeat("v", 257)},
		{S: strings.Repeat("v", 258)},
		{S: strings.Repeat("v", 512)},
		{S: strings.Repeat("v", 4096)},
		{S: strings.Repeat("v", 1<<16)},
		{S: strings.Repeat("v", 1<<20)},
		{Len: 1},
		{Page: 1},
		{Len: 1, Page: 1},
		{S: "a", Len: 1},
		{S: "a", Page: 1},
		{S: "abc", Len: 3},
		{S: "abc", Len: 3, Page: 5},
		{Over: true},
		{Over: true, Len: 1},
		{Over: true, Page: 1},
		{Over: true, Len: 4097, Page: 1},
		{Over: true, Len: 1, Page: 4096},
		{Over: true, Len: 4098, Page: 4097},
		{Over: true, S: "a"},
		{Over: true, S: "a", Len: 1, Page: 1},
		{Over: true, S: "\x00", Len: 1, Page: 1},
		{Over: true, S: strings.Repeat("v", 300), Len: 300, Page: 1},
	}
	for _, n := range great {
		out = append(out, Value{Len: n}, Value{Page: n}, Value{S: "ab", Len: n}, Value{S: "ab", Page: n}, Value{Len: n, Page: n},
			Value{Over: true, Len: n, Page: 1}, Value{Over: true, Len: 1, Page: n}, Value{Over: true, Len: n, Page: n}, Value{Over: true, Len: n}, Value{Over: true, Page: n})
	}
	return out
}

// puts looks whether PutValue tells a cell, and GetValue what it is of.
func puts(t *testing.T, suffix string, v Value, want string) {
	t.Helper()
	if s, e := PutValue(suffix, v); s != want || e != api.OK {
		t.Fatalf("PutValue(%.20q, %.20q): %.60q, %d; want %.60q", suffix, shown(v), s, e, want)
	}
	gets(t, want, suffix, v)
}

// gets looks whether GetValue tells a suffix and a value.
func gets(t *testing.T, s, suffix string, v Value) {
	t.Helper()
	if a, b, e := GetValue(s); a != suffix || b != v || e != api.OK {
		t.Fatalf("GetValue(%.60q): %.20q, %.60q, %d; want %.20q, %.60q", s, a, shown(b), e, suffix, shown(v))
	}
}

// noValue looks whether GetValue tells that there is none, and nothing beside it.
func noValue(t *testing.T, s string) {
	t.Helper()
	if a, b, e := GetValue(s); a != "" || b != (Value{}) || e != api.ErrForm {
		t.Fatalf("GetValue(%.60q): %.20q, %.60q, %d; want ErrForm", s, a, shown(b), e)
	}
}

// noValueCell looks whether PutValue tells that there is none, and nothing beside it.
func noValueCell(t *testing.T, suffix string, v Value) {
	t.Helper()
	if s, e := PutValue(suffix, v); s != "" || e != api.ErrForm {
		t.Fatalf("PutValue(%.20q, %.60q): %.60q, %d; want ErrForm", suffix, shown(v), s, e)
	}
}

// putsKid looks whether PutKid tells a cell, and GetKid what it is of.
func putsKid(t *testing.T, kid int, suffix, want string) {
	t.Helper()
	if s, e := PutKid(kid, suffix); s != want || e != api.OK {
		t.Fatalf("PutKid(%d, %.20q): %.60q, %d; want %.60q", kid, suffix, s, e, want)
	}
	if a, b, e := GetKid(want); a != kid || b != suffix || e != api.OK {
		t.Fatalf("GetKid(%.60q): %d, %.20q, %d; want %d, %.20q", want, a, b, e, kid, suffix)
	}
}

// noKid looks whether GetKid tells that there is none, and nothing beside it.
func noKid(t *testing.T, s string) {
	t.Helper()
	if a, b, e := GetKid(s); a != 0 || b != "" || e != api.ErrForm {
		t.Fatalf("GetKid(%.60q): %d, %.20q, %d; want ErrForm", s, a, b, e)
	}
}

// noKidCell looks whether PutKid tells that there is none, and nothing beside it.
func noKidCell(t *testing.T, kid int, suffix string) {
	t.Helper()
	if s, e := PutKid(kid, suffix); s != "" || e != api.ErrForm {
		t.Fatalf("PutKid(%d, %.20q): %.60q, %d; want ErrForm", kid, suffix, s, e)
	}
}

// mustPut answers a value's cell of which there is one.
func mustPut(t *testing.T, suffix string, v Value) string {
	t.Helper()
	s, e := PutValue(suffix, v)
	if e != api.OK {
		t.Fatalf("PutValue(%.20q, %.60q): %d", suffix, shown(v), e)
	}
	return s
}

// shown answers a text that tells a value.
func shown(v Value) string {
	return strconv.FormatBool(v.Over) + " " + strconv.Quote(v.S) + " " + strconv.Itoa(v.Len) + " " + strconv.Itoa(v.Page)
}

// The chapter's examples.
func TestExamples(t *testing.T) {
	puts(t, "a", Value{S: "bc"}, "\x01a\x00\x02bc")
	putsKid(t, 5, "", "\x05\x00\x00\x00\x00")
}

// P9.1: which values may be.
func TestRight(t *testing.T) {
	for _, v := range goodValues {
		if !Right(v) {
			t.Fatalf("%.60q may not be", shown(v))
		}
	}
	for _, v := range badValues() {
		if Right(v) {
			t.Fatalf("%.60q may be", shown(v))
		}
	}
	for n := range 600 {
		s := strings.Repeat("x", n)
		if Right(Value{S: s}) != (n <= 256) {
			t.Fatalf("%d bytes", n)
		}
		if Right(Value{Over: true, S: s, Len: 7, Page: 7}) != (n == 0) {
			t.Fatalf("over, and %d bytes", n)
		}
	}
	for n := -10; n < 9000; n++ {
		if Right(Value{Over: true, Len: n, Page: 9}) != (n >= 1 && n <= 4096) {
			t.Fatalf("Len %d", n)
		}
		if Right(Value{Over: true, Len: 9, Page: n}) != (n >= 1 && n <= 4095) {
			t.Fatalf("Page %d", n)
		}
		if Right(Value{Len: n}) != (n == 0) || Right(Value{Page: n}) != (n == 0) || Right(Value{S: "x", Len: n}) != (n == 0) || Right(Value{S: "x", Page: n}) != (n == 0) {
			t.Fatalf("not over, and %d", n)
		}
	}
}

// P9.1: cells written out, byte by byte.
func TestValueCells(t *testing.T) {
	for _, x := range []struct {
		suffix string
		v      Value
		want   string
	}{
		{"", Value{}, "\x00\x00\x00"},
		{"", Value{S: "a"}, "\x00\x00\x01a"},
		{"a", Value{}, "\x01a\x00\x00"},
		{"abc", Value{S: "defg"}, "\x03abc\x00\x04defg"},
		{"\x00\x01", Value{S: "\x01\x00"}, "\x02\x00\x01\x00\x02\x01\x00"},
		{"", Value{S: strings.Repeat("v", 240)}, "\x00\x00\xf0" + strings.Repeat("v", 240)},
		{"", Value{S: strings.Repeat("v", 241)}, "\x00\x00\xf1\x01" + strings.Repeat("v", 241)},
		{"x", Value{S: strings.Repeat("v", 256)}, "\x01x\x00\xf1\x10" + strings.Repeat("v", 256)},
		{strings.Repeat("s", 127), Value{S: "v"}, "\x7f" + strings.Repeat("s", 127) + "\x00\x01v"},
		{strings.Repeat("s", 128), Value{S: "v"}, "\x80" + strings.Repeat("s", 128) + "\x00\x01v"},
		{"", Value{Over: true, Len: 1, Page: 1}, "\x00\x01\x01\x01\x00\x00\x00"},
		{"ab", Value{Over: true, Len: 240, Page: 0x0102}, "\x02ab\x01\xf0\x02\x01\x00\x00"},
		{"ab", Value{Over: true, Len: 241, Page: 0x0203}, "\x02ab\x01\xf1\x01\x03\x02\x00\x00"},
		{"", Value{Over: true, Len: 2287, Page: 4095}, "\x00\x01\xf8\xff\xff\x0f\x00\x00"},
		{"", Value{Over: true, Len: 2288, Page: 4095}, "\x00\x01\xf9\x00\x00\xff\x0f\x00\x00"},
		{"", Value{Over: true, Len: 4096, Page: 256}, "\x00\x01\xf9\x07\x10\x00\x01\x00\x00"},
		{strings.Repeat("s", 128), Value{Over: true, Len: 4096, Page: 4095}, "\x80" + strings.Repeat("s", 128) + "\x01\xf9\x07\x10\xff\x0f\x00\x00"},
	} {
		puts(t, x.suffix, x.v, x.want)
	}
}

// P9.1: each byte may stand in a suffix and in a value.
func TestAllBytes(t *testing.T) {
	for b := range 256 {
		c := string([]byte{byte(b)})
		puts(t, c+c, Value{S: c}, "\x02"+c+c+"\x00\x01"+c)
		puts(t, c, Value{Over: true, Len: 7, Page: 9}, "\x01"+c+"\x01\x07\x09\x00\x00\x00")
		putsKid(t, 7, c, "\x07\x00\x00\x00\x01"+c)
	}
}

// P9.1, P9.2: suffixes of each length.
func TestSuffixes(t *testing.T) {
	for n := range 400 {
		suffix := strings.Repeat("x", n)
		if n > 128 {
			noValueCell(t, suffix, Value{})
			noValueCell(t, suffix, Value{S: "v"})
			noValueCell(t, suffix, Value{Over: true, Len: 1, Page: 1})
			noKidCell(t, 1, suffix)
			noKidCell(t, 4095, suffix)
			noValue(t, numberOf(n)+suffix+"\x00\x00")
			noValue(t, numberOf(n)+suffix+"\x01\x01\x01\x00\x00\x00")
			noKid(t, "\x01\x00\x00\x00"+numberOf(n)+suffix)
			continue
		}
		puts(t, suffix, Value{}, numberOf(n)+suffix+"\x00\x00")
		puts(t, suffix, Value{Over: true, Len: 1, Page: 1}, numberOf(n)+suffix+"\x01\x01\x01\x00\x00\x00")
		putsKid(t, 1, suffix, "\x01\x00\x00\x00"+numberOf(n)+suffix)
	}
	for _, n := range []int{512, 1024, 4096, 65536, 65536 + 5, 1 << 20} {
		noValueCell(t, strings.Repeat("x", n), Value{S: "v"})
		noKidCell(t, 1, strings.Repeat("x", n))
	}
}

// P9.1: values that may not be have no cell, whatever the suffix.
func TestNoValueCells(t *testing.T) {
	for _, v := range badValues() {
		for _, suffix := range suffixes {
			noValueCell(t, suffix, v)
		}
		noValueCell(t, strings.Repeat("x", 129), v)
	}
}

// P9.1, P9.3: values of each length, here and over, and on each page.
func TestAllValues(t *testing.T) {
	for n := range 257 {
		s := strings.Repeat("w", n)
		puts(t, "ab", Value{S: s}, "\x02ab\x00"+numberOf(n)+s)
	}
	for n := 1; n <= 4096; n++ {
		puts(t, "ab", Value{Over: true, Len: n, Page: 3}, "\x02ab\x01"+numberOf(n)+"\x03\x00\x00\x00")
	}
	for n := 1; n <= 4095; n++ {
		puts(t, "", Value{Over: true, Len: 3, Page: n}, "\x00\x01\x03"+fourOf(n))
		putsKid(t, n, "a", fourOf(n)+"\x01a")
	}
}

// P9.1: a cell without its last bytes, any many, or with bytes behind, is none.
func TestValueCellsCut(t *testing.T) {
	for _, suffix := range suffixes {
		for _, v := range goodValues {
			s := mustPut(t, suffix, v)
			for n := range len(s) {
				noValue(t, s[:n])
			}
			for _, behind := range []string{"\x00", "\x01", "a", "\xff", "\x00\x00\x00\x00", s} {
				noValue(t, s+behind)
			}
		}
	}
}

// P9.1: cells whose places tell what may not be.
func TestNoValues(t *testing.T) {
	long := func(n int) string { return strings.Repeat("x", n) }
	for what, s := range map[string]string{
		"no bytes":                         "",
		"one byte":                         "\x00",
		"two bytes":                        "\x00\x00",
		"a suffix and no more":             "\x01a",
		"as many as a suffix":              "\x05abcd",
		"length of the suffix cut":         "\xf1",
		"the longest suffix by one":        "\x81" + long(129) + "\x00\x00",
		"the suffix's length in two":       "\xf1\x00" + long(240) + "\x00\x00",
		"a suffix of 241":                  "\xf1\x01" + long(241) + "\x00\x00",
		"the suffix's length in three":     "\xf9\x00\x00" + long(2288) + "\x00\x00",
		"length one of the suffix in four": "\xfa\x00\x00\x01a\x00\x00",
		"length one of the suffix in nine": "\xff\x00\x00\x00\x00\x00\x00\x00\x01a\x00\x00",
		"length 0 of the suffix in four":   "\xfa\x00\x00\x00\x00\x00",
		"a suffix beyond all":              "\xff\xff\xff\xff\xff\xff\xff\xff\xff\x00\x00",
		"a suffix of the half of all":      "\xff\x80\x00\x00\x00\x00\x00\x00\x00\x00\x00",
		"a suffix of the most but one":     "\xff\x7f\xff\xff\xff\xff\xff\xff\xff\x00\x00",
		"a suffix of 2 to the 32nd":        "\xfc\x01\x00\x00\x00\x00\x00\x00",
		"a suffix of 2 to the 32nd and 1":  "\xfc\x01\x00\x00\x00\x01a\x00\x00",
		"a mark of 2":                      "\x01a\x02\x00",
		"a mark of 255":                    "\x01a\xff\x00",
		"a mark of 2, over":                "\x01a\x02\x01\x01\x00\x00\x00",
		"a mark of 128":                    "\x01a\x80\x00",
		"the longest value by one":         "\x01a\x00\xf1\x11" + long(257),
		"a value of 258":                   "\x01a\x00\xf1\x12" + long(258),
		"a value of 4096":                  "\x01a\x00\xf9\x07\x10" + long(4096),
		"a value of 4097":                  "\x01a\x00\xf9\x07\x11" + long(4097),
		"the value's length in four":       "\x01a\x00\xfa\x00\x00\x01v",
		"the value's length 0 in four":     "\x01a\x00\xfa\x00\x00\x00",
		"a value beyond all":               "\x01a\x00\xff\xff\xff\xff\xff\xff\xff\xff\xff",
		"a value of the half of all":       "\x01a\x00\xff\x80\x00\x00\x00\x00\x00\x00\x00",
		"a value of the most but one":      "\x01a\x00\xff\x7f\xff\xff\xff\xff\xff\xff\xff",
		"a value of 2 to the 32nd":         "\x01a\x00\xfc\x01\x00\x00\x00\x00",
		"a value of 2 to the 32nd and 1":   "\x01a\x00\xfc\x01\x00\x00\x00\x01v",
		"Len 0":                            "\x01a\x01\x00\x01\x00\x00\x00",
		"Len 4097":                         "\x01a\x01\xf9\x07\x11\x01\x00\x00\x00",
		"Len 67823":                        "\x01a\x01\xf9\xff\xff\x01\x00\x00\x00",
		"Len 67824":                        "\x01a\x01\xfa\x01\x08\xf0\x01\x00\x00\x00",
		"Len beyond all":                   "\x01a\x01\xff\xff\xff\xff\xff\xff\xff\xff\xff\x01\x00\x00\x00",
		"Len the half of all and one":      "\x01a\x01\xff\x80\x00\x00\x00\x00\x00\x00\x01\x01\x00\x00\x00",
		"Len 2 to the 32nd and 1":          "\x01a\x01\xfc\x01\x00\x00\x00\x01\x01\x00\x00\x00",
		"Len 1 in four":                    "\x01a\x01\xfa\x00\x00\x01\x01\x00\x00\x00",
		"Len 1 in nine":                    "\x01a\x01\xff\x00\x00\x00\x00\x00\x00\x00\x01\x01\x00\x00\x00",
		"Page 0":                           "\x01a\x01\x01\x00\x00\x00\x00",
		"Page 4096":                        "\x01a\x01\x01\x00\x10\x00\x00",
		"Page 65537":                       "\x01a\x01\x01\x01\x00\x01\x00",
		"Page 2 to the 24th and 1":         "\x01a\x01\x01\x01\x00\x00\x01",
		"Page 2 to the 31st and 1":         "\x01a\x01\x01\x01\x00\x00\x80",
		"Page beyond all":                  "\x01a\x01\x01\xff\xff\xff\xff",
		"Page, the highest first":          "\x01a\x01\x01\x00\x00\x00\x01",
		"Len and Page 0":                   "\x01a\x01\x00\x00\x00\x00\x00",
	} {
		if a, b, e := GetValue(s); a != "" || b != (Value{}) || e != api.ErrForm {
			t.Fatalf("%s: %.20q, %.60q, %d; want ErrForm", what, a, shown(b), e)
		}
	}
	for b := 2; b < 256; b++ {
		for _, s := range []string{"\x01a", "\x00", "\x02\x00\x00"} {
			noValue(t, s+string([]byte{byte(b)})+"\x00")
			noValue(t, s+string([]byte{byte(b)})+"\x01\x01\x00\x00\x00")
			noValue(t, s+string([]byte{byte(b)}))
		}
	}
}

// P9.1, P9.2: lengths of more than what follows, each of them.
func TestLengthsTooGreat(t *testing.T) {
	for n := range 300 {
		for have := range n {
			rest := strings.Repeat("\x00", have)
			noValue(t, "\x01a\x00"+numberOf(n)+rest)
			noKid(t, "\x01\x00\x00\x00"+numberOf(n)+rest)
			if n <= 128 && have < n {
				noValue(t, numberOf(n)+rest)
			}
		}
	}
	for shift := 8; shift < 64; shift++ {
		for _, less := range []uint64{0, 1} {
			n := word.Put(1<<shift - less)
			for _, rest := range []string{"", "\x00\x00", strings.Repeat("\x00", 300)} {
				noValue(t, n+rest)
				noValue(t, "\x00\x00"+n+rest)
				noKid(t, "\x01\x00\x00\x00"+n+rest)
			}
		}
	}
}

// P9.2: cells written out, byte by byte.
func TestKidCells(t *testing.T) {
	putsKid(t, 1, "", "\x01\x00\x00\x00\x00")
	putsKid(t, 255, "a", "\xff\x00\x00\x00\x01a")
	putsKid(t, 256, "ab", "\x00\x01\x00\x00\x02ab")
	putsKid(t, 0x0203, "\x00", "\x03\x02\x00\x00\x01\x00")
	putsKid(t, 4095, strings.Repeat("s", 128), "\xff\x0f\x00\x00\x80"+strings.Repeat("s", 128))
	putsKid(t, 4094, strings.Repeat("s", 127), "\xfe\x0f\x00\x00\x7f"+strings.Repeat("s", 127))
}

// P9.2: kids that may not be have no cell, whatever the suffix.
func TestNoKidCells(t *testing.T) {
	for _, kid := range append([]int{0, 4096, 4097, 8191, 1<<12 + 1<<16}, great...) {
		for _, suffix := range suffixes {
			noKidCell(t, kid, suffix)
		}
		noKidCell(t, kid, strings.Repeat("x", 129))
	}
	for kid := -100; kid < 9000; kid++ {
		_, e := PutKid(kid, "x")
		if (e == api.OK) != (kid >= 1 && kid <= 4095) {
			t.Fatalf("PutKid(%d): %d", kid, e)
		}
	}
}

// P9.2: a cell without its last bytes, any many, or with bytes behind, is none.
func TestKidCellsCut(t *testing.T) {
	for _, suffix := range suffixes {
		for _, kid := range []int{1, 2, 255, 256, 4095} {
			s, e := PutKid(kid, suffix)
			if e != api.OK {
				t.Fatal(kid, suffix, e)
			}
			for n := range len(s) {
				noKid(t, s[:n])
			}
			for _, behind := range []string{"\x00", "\x01", "a", "\xff", "\x00\x00\x00\x00", s} {
				noKid(t, s+behind)
			}
		}
	}
}

// P9.2: cells whose places tell what may not be.
func TestNoKids(t *testing.T) {
	for n := uint32(4096); n != 0; n <<= 1 {
		noKid(t, word.Four(n)+"\x00")
		noKid(t, word.Four(n+1)+"\x00")
		noKid(t, word.Four(n+4095)+"\x01a")
	}
	for what, s := range map[string]string{
		"no bytes":                  "",
		"kid 0":                     "\x00\x00\x00\x00\x00",
		"kid 0 and a suffix":        "\x00\x00\x00\x00\x01a",
		"kid 4096":                  "\x00\x10\x00\x00\x00",
		"kid beyond all":            "\xff\xff\xff\xff\x00",
		"the highest first":         "\x00\x00\x00\x05\x00",
		"no length":                 "\x05\x00\x00\x00",
		"length 1 in four":          "\x05\x00\x00\x00\xfa\x00\x00\x01a",
		"length 0 in four":          "\x05\x00\x00\x00\xfa\x00\x00\x00",
		"length 1 in nine":          "\x05\x00\x00\x00\xff\x00\x00\x00\x00\x00\x00\x00\x01a",
		"the longest suffix by one": "\x05\x00\x00\x00\x81" + strings.Repeat("x", 129),
		"a suffix of 241":           "\x05\x00\x00\x00\xf1\x01" + strings.Repeat("x", 241),
		"a suffix of 4096":          "\x05\x00\x00\x00\xf9\x07\x10" + strings.Repeat("x", 4096),
		"a suffix of 4097":          "\x05\x00\x00\x00\xf9\x07\x11" + strings.Repeat("x", 4097),
		"a suffix beyond all":       "\x05\x00\x00\x00\xff\xff\xff\xff\xff\xff\xff\xff\xff",
		"2 to the 32nd":             "\x05\x00\x00\x00\xfc\x01\x00\x00\x00\x00",
		"2 to the 32nd and 1":       "\x05\x00\x00\x00\xfc\x01\x00\x00\x00\x01a",
	} {
		if a, b, e := GetKid(s); a != 0 || b != "" || e != api.ErrForm {
			t.Fatalf("%s: %d, %.20q, %d; want ErrForm", what, a, b, e)
		}
	}
}

// P9.3: what is put is got, of all suffixes and values here.
func TestGotAsPut(t *testing.T) {
	for _, suffix := range suffixes {
		for _, v := range goodValues {
			want, _ := valueCellOf(suffix, v)
			puts(t, suffix, v, want)
		}
		for _, kid := range []int{1, 2, 127, 128, 255, 256, 257, 4094, 4095} {
			want, _ := kidCellOf(kid, suffix)
			putsKid(t, kid, suffix, want)
		}
	}
}

// P9.3: unlike suffixes, values and kids have unlike cells.
func TestUnlikeCells(t *testing.T) {
	short := texts("\x00\x01\x02", 3)
	values := slices.Clone(goodValues)
	for _, s := range short {
		values = append(values, Value{S: s})
	}
	for _, n := range []int{1, 2, 3, 256, 257, 258, 512, 4095} {
		for _, p := range []int{1, 2, 3, 256, 257, 258, 512, 4095} {
			values = append(values, Value{Over: true, Len: n, Page: p})
		}
	}
	seen, seenKids := map[string]string{}, map[string]string{}
	for _, suffix := range append(short, suffixes...) {
		for _, v := range values {
			s, name := mustPut(t, suffix, v), strconv.Quote(suffix)+" "+shown(v)
			if was, ok := seen[s]; ok && was != name {
				t.Fatalf("%.60s and %.60s have one cell, %q", was, name, s)
			}
			seen[s] = name
		}
		for _, kid := range []int{1, 2, 3, 256, 257, 258, 512, 4095} {
			s, _ := PutKid(kid, suffix)
			name := strconv.Itoa(kid) + " " + strconv.Quote(suffix)
			if was, ok := seenKids[s]; ok && was != name {
				t.Fatalf("%.60s and %.60s have one cell, %q", was, name, s)
			}
			seenKids[s] = name
		}
	}
}

// P9.3: all short texts: what is got of one is just what is put as that text.
func TestAllShortCells(t *testing.T) {
	found := [4]int{}
	for _, s := range texts("\x00\x01\x02\x03\xf1\xfa", 7) {
		suffix, v, e := GetValue(s)
		if e == api.OK {
			found[0]++
			if again, e := PutValue(suffix, v); again != s || e != api.OK {
				t.Fatalf("GetValue(%q): %q, %q, whose cell is %q", s, suffix, shown(v), again)
			}
			if v.Over {
				found[1]++
			}
		}
		if len(s) < 7 {
			if a, b, want := valueOf(s); a != suffix || b != v || want != e {
				t.Fatalf("GetValue(%q): %q, %q, %d; want %q, %q, %d", s, suffix, shown(v), e, a, shown(b), want)
			}
		}
		kid, suffix, e := GetKid(s)
		if a, b, want := kidOf(s); a != kid || b != suffix || want != e {
			t.Fatalf("GetKid(%q): %d, %q, %d; want %d, %q, %d", s, kid, suffix, e, a, b, want)
		}
		found[2+min(1, int(e))]++
	}
	if found[0] < 1000 || found[1] < 9 || found[2] < 9 || found[3] < 1000 {
		t.Fatal(found)
	}
}

// texts answers all texts of up to most bytes, each byte one of those of letters.
func texts(letters string, most int) []string {
	out := []string{""}
	for from := 0; most > 0; most-- {
		to := len(out)
		for _, s := range out[from:to] {
			for i := range len(letters) {
				out = append(out, s+letters[i:i+1])
			}
		}
		from = to
	}
	return out
}

// P9.1 to P9.3: suffixes, values and kids of chance, held against the chapter's words.
func TestPutOfChance(t *testing.T) {
	source := rand.New(rand.NewSource(91))
	for range 30000 {
		suffix, v, kid := anyText(source, oneOf(source, 0, 1, 2, 3, 127, 128, 129)), anyValue(source), oneOf(source, 0, 1, 255, 256, 4095, 4096)
		s, e := PutValue(suffix, v)
		if want, wantErrno := valueCellOf(suffix, v); s != want || e != wantErrno || Right(v) != mayBe(v) {
			t.Fatalf("PutValue(%q, %q): %q, %d; want %q, %d", suffix, shown(v), s, e, want, wantErrno)
		}
		if e == api.OK {
			gets(t, s, suffix, v)
		}
		s, e = PutKid(kid, suffix)
		if want, wantErrno := kidCellOf(kid, suffix); s != want || e != wantErrno {
			t.Fatalf("PutKid(%d, %q): %q, %d; want %q, %d", kid, suffix, s, e, want, wantErrno)
		}
	}
}

// P9.1 to P9.3: cells in which some bytes were changed by chance, held against the chapter's words.
func TestGetOfChance(t *testing.T) {
	source := rand.New(rand.NewSource(92))
	found := [4]int{}
	for range 20000 {
		suffix, v, kid := anyText(source, source.Intn(6)), anyValue(source), 1+source.Intn(4095)
		if len(v.S) > 8 {
			v.S = v.S[:source.Intn(8)]
		}
		s, _ := valueCellOf(suffix, v)
		s = changed(source, s)
		a, b, e := GetValue(s)
		if x, y, want := valueOf(s); a != x || b != y || e != want {
			t.Fatalf("GetValue(%q): %q, %q, %d; want %q, %q, %d", s, a, shown(b), e, x, shown(y), want)
		}
		found[min(1, int(e))]++
		s, _ = kidCellOf(kid, suffix)
		s = changed(source, s)
		k, a, e := GetKid(s)
		if y, x, want := kidOf(s); k != y || a != x || e != want {
			t.Fatalf("GetKid(%q): %d, %q, %d; want %d, %q, %d", s, k, a, e, y, x, want)
		}
		found[2+min(1, int(e))]++
	}
	for _, n := range found {
		if n < 2000 {
			t.Fatal(found)
		}
	}
}

// changed answers s with some bytes changed, cut off or added, or as it is.
func changed(source *rand.Rand, s string) string {
	out := []byte(s)
	for range source.Intn(3) {
		if len(out) == 0 {
			break
		}
		at := source.Intn(len(out))
		switch source.Intn(4) {
		case 0:
			out[at] = byte(source.Intn(6))
		case 1:
			out[at] = byte(source.Intn(256))
		case 2:
			out = slices.Delete(out, at, at+1)
		case 3:
			out = slices.Insert(out, at, byte(source.Intn(4)))
		}
	}
	return string(out)
}

// R4: what is told is new memory, its spare room too.
func TestAnswersAreNew(t *testing.T) {
	apart := func(a, b string) {
		t.Helper()
		one, two := uintptr(unsafe.Pointer(unsafe.StringData(a))), uintptr(unsafe.Pointer(unsafe.StringData(b)))
		if one < two+uintptr(len(b)) && two < one+uintptr(len(a)) {
			t.Fatal("two texts share memory")
		}
	}
	suffix, v := strings.Repeat("s", 20), Value{S: strings.Repeat("v", 30)}
	s, again := mustPut(t, suffix, v), mustPut(t, suffix, v)
	apart(s, again)
	apart(s, suffix)
	apart(s, v.S)
	a, b, _ := GetValue(s)
	c, d, _ := GetValue(s)
	for _, x := range []string{s, suffix, v.S, c, d.S} {
		apart(a, x)
		apart(b.S, x)
	}
	apart(a, b.S)
	k, _ := PutKid(5, suffix)
	apart(k, suffix)
	_, a, _ = GetKid(k)
	_, c, _ = GetKid(k)
	apart(a, k)
	apart(a, c)
}

// R4, R5: what was told stays as it was, and the same call tells the same again.
func TestAnswersStay(t *testing.T) {
	source := rand.New(rand.NewSource(93))
	s := mustPut(t, "suffix", Value{S: "value"})
	k, _ := PutKid(77, "suffix")
	a, b, _ := GetValue(s)
	was, wasKid := strings.Clone(s), strings.Clone(k)
	for range 2000 {
		c, _ := PutValue(anyText(source, 6), anyValue(source))
		GetValue(c)
		GetValue(changed(source, s))
		GetKid(changed(source, k))
		PutKid(source.Intn(5000), anyText(source, 6))
	}
	if s != was || k != wasKid || a != "suffix" || b != (Value{S: "value"}) {
		t.Fatalf("%q, %q, %q, %q are other things now", s, k, a, shown(b))
	}
	puts(t, "suffix", Value{S: "value"}, was)
	putsKid(t, 77, "suffix", wasKid)
}
