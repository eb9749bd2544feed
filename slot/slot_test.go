package slot

import (
	"math"
	"math/rand"
	"slices"
	"strconv"
	"strings"
	"testing"
	"unsafe"

	"withy/api"
)

// lists are lists of cells: none, empty ones, short ones and long ones, and some whose bytes are as those of a directory.
var lists = [][]string{
	nil,
	{""},
	{"", "", ""},
	{"a"},
	{"bc", "d"},
	{"", "bc", "", "d", ""},
	{"\x00"},
	{"\x00\x00", "\x00"},
	{"a\x00", "\x00b"},
	{"\x04\x00\x03\x00\x01\x00"},
	{"\xff\xff", "\xff"},
	{strings.Repeat("a", 255), "b"},
	{strings.Repeat("a", 256), "b"},
	{strings.Repeat("a", 300), strings.Repeat("b", 700), ""},
	slices.Repeat([]string{""}, 200),
	slices.Repeat([]string{"xyz"}, 100),
}

// heads are fixed bytes.
var heads = []string{"", "a", "\x00", "\x00\x00\x00", "\x01\x00", "abcdefgh", strings.Repeat("f", 255), strings.Repeat("f", 256), strings.Repeat("\xff", 511)}

// packs looks whether Pack tells a body, which it answers.
func packs(t *testing.T, room int, fixed string, cells []string, want string) {
	t.Helper()
	if s, e := Pack(room, fixed, cells); s != want || e != api.OK {
		t.Fatalf("Pack(%d, %.20q, %.20q): %.40q, %d; want %.40q", room, fixed, cells, s, e, want)
	}
}

// mustPack answers the body of which there is one.
func mustPack(t *testing.T, room int, fixed string, cells []string) string {
	t.Helper()
	s, e := Pack(room, fixed, cells)
	if e != api.OK {
		t.Fatalf("Pack(%d, %.20q, %.20q): %d", room, fixed, cells, e)
	}
	return s
}

// noBody looks whether Pack tells an error, and nothing beside it.
func noBody(t *testing.T, room int, fixed string, cells []string, want api.Errno) {
	t.Helper()
	if s, e := Pack(room, fixed, cells); s != "" || e != want {
		t.Fatalf("Pack(%d, %.20q, %.20q): %d bytes, %d; want %d", room, fixed, cells, len(s), e, want)
	}
}

// unpacks looks whether Unpack tells cells.
func unpacks(t *testing.T, body string, fixed int, want []string) {
	t.Helper()
	if l, e := Unpack(body, fixed, len(want)); !slices.Equal(l, want) || e != api.OK {
		t.Fatalf("Unpack(%.40q, %d, %d): %.40q, %d; want %.40q", body, fixed, len(want), l, e, want)
	}
}

// noCells looks whether Unpack tells an error, and nothing beside it.
func noCells(t *testing.T, body string, fixed, n int, want api.Errno) {
	t.Helper()
	if l, e := Unpack(body, fixed, n); len(l) != 0 || e != want {
		t.Fatalf("Unpack(%d bytes, %.40q, %d, %d): %.40q, %d; want %d", len(body), body, fixed, n, l, e, want)
	}
}

// The chapter's example.
func TestExample(t *testing.T) {
	const body = "abcd\x00\x00\x04\x00\x03\x00\x01\x00"
	packs(t, 12, "a", []string{"bc", "d"}, body)
	unpacks(t, body, 1, []string{"bc", "d"})
	if n := Size("a", []string{"bc", "d"}); n != 10 {
		t.Fatal(n)
	}
}

// P8.1: of no cells, of empty ones, of some and of many.
func TestSize(t *testing.T) {
	for _, x := range []struct {
		fixed string
		cells []string
		want  int
	}{
		{"", nil, 2},
		{"", []string{}, 2},
		{"a", nil, 3},
		{"", []string{""}, 4},
		{"", []string{"", ""}, 6},
		{"abc", []string{""}, 7},
		{"", []string{"a"}, 5},
		{"ab", []string{"cd", "", "efg"}, 15},
		{strings.Repeat("a", 70000), nil, 70002},
		{"", []string{strings.Repeat("a", 70000), "b"}, 70007},
		{"", make([]string, 100000), 200002},
		{"a", slices.Repeat([]string{"abc"}, 100000), 500003},
		{"", slices.Repeat([]string{strings.Repeat("a", 1<<16)}, 1<<14), 1<<30 + 1<<15 + 2},
	} {
		if n := Size(x.fixed, x.cells); n != x.want {
			t.Fatalf("Size(%d bytes, %d cells): %d; want %d", len(x.fixed), len(x.cells), n, x.want)
		}
	}
	for _, fixed := range heads {
		for _, cells := range lists {
			if n := Size(fixed, cells); n != sizeOf(fixed, cells) {
				t.Fatalf("Size(%.20q, %.20q): %d; want %d", fixed, cells, n, sizeOf(fixed, cells))
			}
		}
	}
}

// P8.2: bodies written out, byte by byte.
func TestBodies(t *testing.T) {
	for _, x := range []struct {
		room  int
		fixed string
		cells []string
		want  string
	}{
		{2, "", nil, "\x00\x00"},
		{2, "", []string{}, "\x00\x00"},
		{3, "", nil, "\x00\x00\x00"},
		{3, "f", nil, "f\x01\x00"},
		{5, "f", nil, "f\x00\x00\x01\x00"},
		{4, "", []string{""}, "\x00\x00\x00\x00"},
		{5, "f", []string{""}, "f\x01\x00\x01\x00"},
		{5, "", []string{"a"}, "a\x01\x00\x00\x00"},
		{6, "", []string{"a"}, "a\x00\x01\x00\x00\x00"},
		{6, "f", []string{"a"}, "fa\x02\x00\x01\x00"},
		{11, "gf", []string{"", "abc"}, "gfabc\x05\x00\x02\x00\x02\x00"},
		{13, "gf", []string{"abc", ""}, "gfabc\x00\x00\x05\x00\x05\x00\x02\x00"},
		{16, "", []string{"a", "bc", "def"}, "abcdef\x00\x00\x06\x00\x03\x00\x01\x00\x00\x00"},
	} {
		packs(t, x.room, x.fixed, x.cells, x.want)
		unpacks(t, x.want, len(x.fixed), x.cells)
	}
}

// P8.2: places above 255 have their lower byte first, and the greatest one is told, too.
func TestGreatPlaces(t *testing.T) {
	fixed, cell := strings.Repeat("f", 0x0102), strings.Repeat("c", 0x0301)
	packs(t, 0x0403+8, fixed, []string{cell}, fixed+cell+"\x00\x00\x00\x00\x03\x04\x02\x01")
	cell = strings.Repeat("c", 65535-4)
	packs(t, 65535, "", []string{cell}, cell+"\xfb\xff\x00\x00")
	unpacks(t, cell+"\xfb\xff\x00\x00", 0, []string{cell})
	fixed = strings.Repeat("f", 65535-2)
	packs(t, 65535, fixed, nil, fixed+"\xfd\xff")
	unpacks(t, fixed+"\xfd\xff", 65533, nil)
	none := make([]string, 32766)
	packs(t, 65535, "", none, strings.Repeat("\x00", 65535))
	unpacks(t, strings.Repeat("\x00", 65535), 0, none)
	packs(t, 65535, "f", none, "f"+strings.Repeat("\x01\x00", 32767))
	unpacks(t, "f"+strings.Repeat("\x01\x00", 32767), 1, none)
}

// P8.2: each of the fixed bytes and of the cells' bytes may be all of 256.
func TestAllBytes(t *testing.T) {
	for b := range 256 {
		c := string([]byte{byte(b)})
		packs(t, 10, c, []string{c + c, c}, c+c+c+c+"\x04\x00\x03\x00\x01\x00")
		packs(t, 12, c, []string{c + c, c}, c+c+c+c+"\x00\x00\x04\x00\x03\x00\x01\x00")
		unpacks(t, c+c+c+c+"\x04\x00\x03\x00\x01\x00", 1, []string{c + c, c})
	}
}

// P8.2: rooms below 0, less than Size asks, just that, more, and above 65535.
func TestRooms(t *testing.T) {
	for _, room := range []int{math.MinInt, -1 << 32, -65536, -2, -1, 65536, 65537, 1 << 17, 1 << 32, 1<<32 + 12, math.MaxInt} {
		noBody(t, room, "", nil, api.ErrArg)
		noBody(t, room, "a", []string{"bc", "d"}, api.ErrArg)
		// Of two errors the room's comes first.
		noBody(t, room, strings.Repeat("f", 70000), []string{"bc"}, api.ErrArg)
		noBody(t, room, "", make([]string, 40000), api.ErrArg)
	}
	for _, room := range []int{0, 1} {
		noBody(t, room, "", nil, api.ErrBig)
		noBody(t, room, "a", nil, api.ErrBig)
		noBody(t, room, "", []string{""}, api.ErrBig)
	}
	for _, fixed := range heads {
		for _, cells := range lists {
			size := sizeOf(fixed, cells)
			for _, room := range []int{0, 1, 2, 3, size / 2, size - 3, size - 2, size - 1} {
				if room >= 0 && room < size {
					noBody(t, room, fixed, cells, api.ErrBig)
				}
			}
			for _, room := range []int{size, size + 1, size + 2, size + 3, size + 300, 65534, 65535} {
				packs(t, room, fixed, cells, bodyOf(room, fixed, cells))
			}
		}
	}
}

// P8.2: what is too big for the greatest room, by its fixed bytes, its cells' bytes, or the number of its cells.
func TestTooBig(t *testing.T) {
	noBody(t, 65535, strings.Repeat("f", 65534), nil, api.ErrBig)
	noBody(t, 65535, strings.Repeat("f", 65536), nil, api.ErrBig)
	noBody(t, 65535, "", []string{strings.Repeat("c", 65532)}, api.ErrBig)
	noBody(t, 65535, "", []string{strings.Repeat("c", 65536+7)}, api.ErrBig)
	noBody(t, 65535, "", make([]string, 32767), api.ErrBig)
	noBody(t, 65535, "ff", make([]string, 32766), api.ErrBig)
	noBody(t, 65535, "", make([]string, 65535), api.ErrBig)
	noBody(t, 65535, strings.Repeat("f", 1<<22), slices.Repeat([]string{strings.Repeat("c", 1<<16)}, 1<<15), api.ErrBig)
}

// P8.3: numbers below 0, and a body of too many bytes.
func TestUnpackArguments(t *testing.T) {
	body := mustPack(t, 12, "a", []string{"bc", "d"})
	for _, below := range []int{-1, -2, -65536, math.MinInt} {
		for _, s := range []string{body, "", strings.Repeat("\x00", 65536)} {
			for _, other := range []int{0, 1, 2, 100, math.MaxInt, -1, math.MinInt} {
				noCells(t, s, below, other, api.ErrArg)
				noCells(t, s, other, below, api.ErrArg)
			}
		}
	}
	zeros := strings.Repeat("\x00", 1<<17)
	unpacks(t, zeros[:65535], 0, nil)
	unpacks(t, zeros[:65534], 0, nil)
	for _, size := range []int{65536, 65537, 1 << 17} {
		for _, n := range []int{0, 1, 32766, 32767, 32768, math.MaxInt} {
			noCells(t, zeros[:size], 0, n, api.ErrArg)
			noCells(t, zeros[:size], n, 0, api.ErrArg)
		}
	}
	noCells(t, "\xff"+zeros[:65535], 0, 0, api.ErrArg)
}

// P8.3: more fixed bytes than the body has, and more cells than it can have.
func TestUnpackTooMany(t *testing.T) {
	great := []int{100, 65534, 65535, 65536, 1 << 31, 1 << 32, 1 << 62, 1<<62 - 1, 1<<63 - 2, math.MaxInt}
	for _, room := range []int{0, 1, 2, 3, 4, 5, 6, 7, 12, 99} {
		zeros := strings.Repeat("\x00", room)
		for n := range 60 {
			if 2*(n+1) <= room {
				unpacks(t, zeros, 0, make([]string, n))
			} else {
				noCells(t, zeros, 0, n, api.ErrForm)
			}
		}
		for _, n := range great {
			noCells(t, zeros, 0, n, api.ErrForm)
			noCells(t, zeros, n, 0, api.ErrForm)
			noCells(t, zeros, n, n, api.ErrForm)
		}
		for _, more := range []int{1, 2, 3, 254, 65534} {
			noCells(t, zeros, room+more, 0, api.ErrForm)
			noCells(t, zeros, room+more, 1, api.ErrForm)
		}
	}
	zeros := strings.Repeat("\x00", 65535)
	noCells(t, zeros, 0, 32767, api.ErrForm)
	noCells(t, zeros, 0, 32768, api.ErrForm)
	noCells(t, zeros, 65535, 0, api.ErrForm)
	noCells(t, zeros, 65536, 0, api.ErrForm)
	// The only place tells as many bytes as the fixed ones ought to be, but the directory lies among these.
	noCells(t, "\x02\x00", 2, 0, api.ErrForm)
	noCells(t, "ab\x03\x00", 3, 0, api.ErrForm)
	noCells(t, "ab\x04\x00", 4, 0, api.ErrForm)
	noCells(t, "ab\x05\x00", 5, 0, api.ErrForm)
	noCells(t, "ab\xff\xff", 65535, 0, api.ErrForm)
	unpacks(t, "ab\x02\x00", 2, nil)
}

// P8.3: places that fall, that lead out of the body or into its directory, or that are ahead of the fixed bytes' end or behind it.
func TestUnpackPlaces(t *testing.T) {
	const cells = "fbcd\x00\x00"
	unpacks(t, cells+"\x04\x00\x03\x00\x01\x00", 1, []string{"bc", "d"})
	for what, directory := range map[string]string{
		"falls, the last":               "\x02\x00\x03\x00\x01\x00",
		"falls, the second":             "\x04\x00\x00\x00\x01\x00",
		"turned round":                  "\x01\x00\x03\x00\x04\x00",
		"the second behind the last":    "\x03\x00\x04\x00\x01\x00",
		"first byte higher":             "\x00\x04\x00\x03\x00\x01",
		"into the directory by one":     "\x07\x00\x03\x00\x01\x00",
		"into the directory":            "\x09\x00\x03\x00\x01\x00",
		"all that there is":             "\x0c\x00\x03\x00\x01\x00",
		"behind the body by one":        "\x0d\x00\x03\x00\x01\x00",
		"behind the body":               "\xff\xff\x03\x00\x01\x00",
		"all behind the body":           "\xff\xff\xff\xff\xff\xff",
		"two behind the body":           "\x0e\x00\x0d\x00\x01\x00",
		"the second in the directory":   "\x08\x00\x07\x00\x01\x00",
		"the second behind, not last":   "\x04\x00\x10\x00\x01\x00",
		"by 256":                        "\x04\x01\x03\x00\x01\x00",
		"the second by 256":             "\x04\x00\x03\x01\x01\x00",
		"the first by 256":              "\x04\x00\x03\x00\x01\x01",
		"ahead of the fixed bytes' end": "\x04\x00\x03\x00\x00\x00",
		"behind the fixed bytes' end":   "\x04\x00\x03\x00\x02\x00",
		"all at the fixed bytes' begin": "\x00\x00\x00\x00\x00\x00",
		"all at the fixed bytes' end":   "\x01\x00\x01\x00\x01\x00",
		"the last byte left out":        "\x03\x00\x03\x00\x01\x00",
	} {
		if l, e := Unpack(cells+directory, 1, 2); len(l) != 0 || e != api.ErrForm {
			t.Fatalf("%s: %q, %d; want ErrForm", what, l, e)
		}
	}
	// One of the zeros is a cell's, or both are.
	unpacks(t, cells+"\x05\x00\x03\x00\x01\x00", 1, []string{"bc", "d\x00"})
	unpacks(t, cells+"\x06\x00\x03\x00\x01\x00", 1, []string{"bc", "d\x00\x00"})
	unpacks(t, cells+"\x06\x00\x06\x00\x01\x00", 1, []string{"bcd\x00\x00", ""})
	unpacks(t, cells+"\x04\x00\x01\x00\x01\x00", 1, []string{"", "bcd"})
	// As if it had more fixed bytes, or fewer.
	noCells(t, cells+"\x04\x00\x03\x00\x01\x00", 0, 2, api.ErrForm)
	noCells(t, cells+"\x04\x00\x03\x00\x01\x00", 2, 2, api.ErrForm)
	unpacks(t, cells+"\x04\x00\x03\x00\x02\x00", 2, []string{"c", "d"})
	unpacks(t, cells+"\x04\x00\x03\x00\x00\x00", 0, []string{"fbc", "d"})
}

// P8.3: as if it had another number of cells.
func TestUnpackNumbers(t *testing.T) {
	cells := []string{"bc", "d", "efg", "h"}
	for _, room := range []int{18, 19, 40, 300} {
		body := mustPack(t, room, "a", cells)
		for n := range 30 {
			if n == len(cells) {
				unpacks(t, body, 1, cells)
				continue
			}
			noCells(t, body, 1, n, api.ErrForm)
		}
	}
	// Of some bodies there are cells of more than one number: empty ones are no more than places, and bytes 0 a place.
	zeros := strings.Repeat("\x00", 9)
	for n := range 4 {
		unpacks(t, zeros, 0, make([]string, n))
	}
	noCells(t, zeros, 0, 4, api.ErrForm)
}

// P8.3: one byte of those between the cells and the directory is another one.
func TestUnpackZeros(t *testing.T) {
	for _, cells := range lists {
		size := sizeOf("abc", cells)
		body := mustPack(t, size+20, "abc", cells)
		from := size - 2*(len(cells)+1)
		for at := from; at < from+20; at++ {
			for _, b := range []byte{1, 2, 128, 255} {
				changed := []byte(body)
				changed[at] = b
				noCells(t, string(changed), 3, len(cells), api.ErrForm)
			}
		}
	}
}

// P8.3: fixed bytes and cells' bytes may be any; what they are is what is told.
func TestUnpackOtherBytes(t *testing.T) {
	cells := []string{"bc", "d"}
	body := mustPack(t, 14, "aa", cells)
	for at := range 14 {
		for change := 1; change < 256; change++ {
			changed := []byte(body)
			changed[at] ^= byte(change)
			l, e := Unpack(string(changed), 2, 2)
			want, wantErrno := unpackOf(string(changed), 2, 2)
			if !slices.Equal(l, want) || e != wantErrno {
				t.Fatalf("byte %d by %d: %q, %d; want %q, %d", at, change, l, e, want, wantErrno)
			}
			if at < 5 && e != api.OK {
				t.Fatalf("byte %d by %d: %d", at, change, e)
			}
		}
	}
}

// P8.4: unpacked as packed, in many rooms.
func TestUnpackedAsPacked(t *testing.T) {
	for _, fixed := range heads {
		for _, cells := range lists {
			size := Size(fixed, cells)
			for _, room := range []int{size, size + 1, size + 2, size + 7, size + 255, size + 256, size + 1000, 65535} {
				unpacks(t, mustPack(t, room, fixed, cells), len(fixed), cells)
			}
		}
	}
}

// texts answers all texts of up to most bytes, each byte one of those of letters.
func texts(letters string, most int) []string {
	out := []string{""}
	for from := 0; most > 0; most-- {
		to := len(out)
		for _, s := range out[from:to] {
			for i := range len(letters) {
				out = append(out, s+letters[i:i+1])
			}
		}
		from = to
	}
	return out
}

// P8.4: of all short fixed bytes and all short lists of as many cells, unlike ones have unlike bodies, and each is unpacked.
func TestUnlikeBodies(t *testing.T) {
	short := texts("\x00\x01\x02", 2)
	for _, room := range []int{8, 12, 13} {
		for fixed := range 3 {
			for n := range 4 {
				seen := map[string]string{}
				choose(short, n, func(cells []string) {
					for _, f := range short {
						if len(f) != fixed || sizeOf(f, cells) > room {
							continue
						}
						s := mustPack(t, room, f, cells)
						name := strconv.Quote(f)
						for _, cell := range cells {
							name += strconv.Quote(cell)
						}
						if was, ok := seen[s]; ok {
							t.Fatalf("%s and %s have one body, %q", was, name, s)
						}
						seen[s] = name
						unpacks(t, s, fixed, cells)
					}
				})
			}
		}
	}
}

// choose tells all lists of n of the texts.
func choose(texts []string, n int, tell func([]string)) {
	if n == 0 {
		tell(nil)
		return
	}
	choose(texts, n-1, func(ahead []string) {
		for _, s := range texts {
			tell(append(slices.Clone(ahead), s))
		}
	})
}

// P8.3, P8.4: all short bodies, by all numbers of fixed bytes and of cells: cells are told just if these make the body.
func TestAllShortBodies(t *testing.T) {
	for room := range 9 {
		count := 0
		for _, body := range all("\x00\x01\x02\x03\x07", room) {
			for fixed := range room + 2 {
				for n := range room/2 + 2 {
					l, e := Unpack(body, fixed, n)
					want, wantErrno := unpackOf(body, fixed, n)
					if !slices.Equal(l, want) || e != wantErrno {
						t.Fatalf("Unpack(%q, %d, %d): %q, %d; want %q, %d", body, fixed, n, l, e, want, wantErrno)
					}
					if e != api.OK {
						continue
					}
					count++
					if again := bodyOf(room, body[:fixed], l); again != body || len(l) != n {
						t.Fatalf("Unpack(%q, %d, %d): %q, whose body is %q", body, fixed, n, l, again)
					}
				}
			}
		}
		if (count > 0) != (room > 1) {
			t.Fatalf("of %d bytes %d bodies have cells", room, count)
		}
	}
}

// all answers all texts of just n bytes, each byte one of those of letters.
func all(letters string, n int) []string {
	out := []string{""}
	for range n {
		var longer []string
		for _, s := range out {
			for i := range len(letters) {
				longer = append(longer, s+letters[i:i+1])
			}
		}
		out = longer
	}
	return out
}

// P8.1 to P8.4: fixed bytes and cells of chance, in rooms of chance, held against the chapter's words.
func TestPackOfChance(t *testing.T) {
	source := rand.New(rand.NewSource(81))
	for range 20000 {
		fixed, cells := anyText(source, source.Intn(40)), anyCells(source, 20, 30)
		room := sizeOf(fixed, cells) + source.Intn(60) - 10
		s, e := Pack(room, fixed, cells)
		want, wantErrno := packOf(room, fixed, cells)
		if s != want || e != wantErrno || Size(fixed, cells) != sizeOf(fixed, cells) {
			t.Fatalf("Pack(%d, %q, %q): %q, %d; want %q, %d", room, fixed, cells, s, e, want, wantErrno)
		}
		if e == api.OK {
			unpacks(t, s, len(fixed), cells)
		}
	}
}

// P8.3: bodies of chance, many of them packed and then changed, held against the chapter's words.
func TestUnpackOfChance(t *testing.T) {
	source := rand.New(rand.NewSource(82))
	found := [2]int{}
	for range 60000 {
		fixed, cells := anyText(source, source.Intn(5)), anyCells(source, 6, 5)
		body := []byte(bodyOf(sizeOf(fixed, cells)+source.Intn(8), fixed, cells))
		for range source.Intn(3) {
			at := len(body) - 1 - source.Intn(min(len(body), 2*len(cells)+6))
			body[at] = byte(source.Intn(len(body) + 2))
		}
		a, n := len(fixed), len(cells)
		if source.Intn(4) == 0 {
			a, n = a+source.Intn(3)-1, n+source.Intn(3)-1
		}
		l, e := Unpack(string(body), a, n)
		want, wantErrno := unpackOf(string(body), a, n)
		if !slices.Equal(l, want) || e != wantErrno {
			t.Fatalf("Unpack(%q, %d, %d): %q, %d; want %q, %d", body, a, n, l, e, want, wantErrno)
		}
		if e == api.OK {
			found[0]++
		} else {
			found[1]++
		}
	}
	if found[0] < 10000 || found[1] < 10000 {
		t.Fatalf("%d bodies that have cells, %d that have none", found[0], found[1])
	}
}

// R4: a list that is handed in, and the room behind it, stay as they were.
func TestListsStay(t *testing.T) {
	room := []string{"ab", "", "cde", "behind", "far behind"}
	was := slices.Clone(room)
	for n := range len(room) + 1 {
		for _, size := range []int{0, 5, 30, 40, 100, 70000} {
			Size("fixed", room[:n])
			Pack(size, "fixed", room[:n])
		}
		if !slices.Equal(room, was) {
			t.Fatalf("%q; want %q", room, was)
		}
	}
}

// R4: what is told is new memory, its spare room too.
func TestAnswersAreNew(t *testing.T) {
	apart := func(a, b string) {
		t.Helper()
		one, two := uintptr(unsafe.Pointer(unsafe.StringData(a))), uintptr(unsafe.Pointer(unsafe.StringData(b)))
		if one < two+uintptr(len(b)) && two < one+uintptr(len(a)) {
			t.Fatal("two texts share memory")
		}
	}
	fixed, cells := strings.Repeat("f", 20), []string{strings.Repeat("b", 30), strings.Repeat("c", 40)}
	body, again := mustPack(t, 100, fixed, cells), mustPack(t, 100, fixed, cells)
	apart(body, again)
	for _, s := range append([]string{fixed}, cells...) {
		apart(body, s)
	}
	one, _ := Unpack(body, 20, 2)
	two, _ := Unpack(body, 20, 2)
	apart(one[0], one[1])
	for i := range one {
		apart(one[i], body)
		apart(one[i], two[i])
		apart(one[i], cells[i])
	}
	one[0], one[1] = "x", "y"
	_ = append(one[:1], "z")
	if !slices.Equal(two, cells) {
		t.Fatalf("two lists share memory: %q", two)
	}
	// Fixed bytes that are all of a body, and the only cell.
	whole := mustPack(t, 32, strings.Repeat("f", 30), nil)
	apart(whole, mustPack(t, 32, strings.Repeat("f", 30), nil))
}

// R4, R5: what was told stays as it was, and the same call tells the same again.
func TestAnswersStay(t *testing.T) {
	source := rand.New(rand.NewSource(83))
	cells := []string{"abc", "", "de"}
	body := mustPack(t, 30, "fixed", cells)
	l, _ := Unpack(body, 5, 3)
	was := strings.Clone(body)
	for range 2000 {
		other := anyCells(source, 5, 10)
		s, _ := Pack(100, anyText(source, 5), other)
		Unpack(s, 5, len(other))
		Unpack(s, 4, len(other))
		Unpack(body, 5, 2)
	}
	if body != was || !slices.Equal(l, cells) {
		t.Fatalf("%q, %q are other things now", body, l)
	}
	packs(t, 30, "fixed", cells, was)
	unpacks(t, was, 5, cells)
}
