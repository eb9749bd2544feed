package head

import (
	"errors"
	"math"
	"math/rand"
	"slices"
	"strings"
	"testing"
	"unsafe"

	"withy/api"
)

// some is a head that may be, no number of it at an end, and no two alike.
var some = Head{Kind: Inner, Level: 17, Count: 0x0203, Right: 0x0405, Self: 0x0607}

// mustSeal answers the page of a head and a body of which there is one.
func mustSeal(t *testing.T, h Head, body string, p int) string {
	t.Helper()
	s, e := Seal(h, body, p)
	if e != api.OK {
		t.Fatalf("Seal(%v, %d bytes, %d): %d", h, len(body), p, e)
	}
	return s
}

// noPage looks whether Seal tells an error, and nothing beside it.
func noPage(t *testing.T, h Head, body string, p int, want api.Errno) {
	t.Helper()
	if s, e := Seal(h, body, p); s != "" || e != want {
		t.Fatalf("Seal(%v, %d bytes, %d): %d bytes, %d; want %d", h, len(body), p, len(s), e, want)
	}
}

// none looks whether Open tells that s is no page, and nothing beside it.
func none(t *testing.T, s string) {
	t.Helper()
	if h, body, e := Open(s); h != (Head{}) || body != "" || e != api.ErrForm {
		t.Fatalf("Open of %d bytes, %.20q: %v, %d bytes, %d; want ErrForm", len(s), s, h, len(body), e)
	}
}

// opens looks whether Open tells a head and a body.
func opens(t *testing.T, s string, h Head, body string) {
	t.Helper()
	if gotHead, gotBody, e := Open(s); gotHead != h || gotBody != body || e != api.OK {
		t.Fatalf("Open of %d bytes, %.20q: %v, %.20q, %d; want %v, %.20q", len(s), s, gotHead, gotBody, e, h, body)
	}
}

// other answers s with bytes at a place changed by exclusive or.
func other(s string, at int, change ...byte) string {
	out := []byte(s)
	for i, c := range change {
		out[at+i] ^= c
	}
	return string(out)
}

// The chapter's example, and the same at the other sizes.
func TestExample(t *testing.T) {
	for _, p := range sizes {
		s := mustSeal(t, Head{Kind: Leaf, Self: 3}, "", p)
		if len(s) != p || s[0] != 2 || s[8] != 3 {
			t.Fatalf("%d bytes, %q", len(s), s[:16])
		}
		for i := range p {
			if s[i] != 0 && i != 0 && i != 8 && (i < 12 || i > 15) {
				t.Fatalf("byte %d is %d", i, s[i])
			}
		}
		opens(t, s, Head{Kind: Leaf, Self: 3}, strings.Repeat("\x00", p-16))
	}
}

// The kinds have the numbers that the chapter's list gives them.
func TestKinds(t *testing.T) {
	if l := []int{Meta, Leaf, Inner, Chain, Kinds}; !slices.Equal(l, []int{1, 2, 3, 4, 5}) {
		t.Fatal(l)
	}
}

// P7.1: each field at its ends, beside them on both sides, and far beyond.
func TestRight(t *testing.T) {
	for _, h := range append(endHeads(), some) {
		if !Right(h) {
			t.Fatalf("Right(%v) is false", h)
		}
		for _, wrong := range wrongHeads(h) {
			if Right(wrong) {
				t.Fatalf("Right(%v) is true", wrong)
			}
		}
		for i, x := range ends {
			for _, n := range []int{x.least, x.least + 1, (x.least + x.most) / 2, x.most - 1, x.most} {
				if !Right(with(h, i, n)) {
					t.Fatalf("Right(%v) is false", with(h, i, n))
				}
			}
			for _, n := range []int{math.MinInt, math.MaxInt} {
				if Right(with(h, i, n)) {
					t.Fatalf("Right(%v) is true", with(h, i, n))
				}
			}
		}
	}
	if Right(Head{}) {
		t.Fatal("a head of no kind may be")
	}
}

// P7.1: each number of a field from below its least to above its greatest.
func TestRightOfAll(t *testing.T) {
	for i, x := range ends {
		for n := x.least - 300; n <= x.most+300; n++ {
			if h := with(some, i, n); Right(h) != mayBe(h) {
				t.Fatalf("Right(%v) is %t", h, Right(h))
			}
		}
	}
}

// P7.1: sizes that may be, those beside them, and others.
func TestSealSizes(t *testing.T) {
	for p := -1100; p <= 2200; p++ {
		if slices.Contains(sizes, p) {
			if s := mustSeal(t, some, "abc", p); s != pageOf(some, "abc", p) {
				t.Fatalf("of %d bytes: %q", p, s)
			}
			continue
		}
		noPage(t, some, "abc", p, api.ErrArg)
		noPage(t, some, "", p, api.ErrArg)
	}
	for _, p := range []int{math.MinInt, -1 << 32, -1 << 31, 4096, 1 << 31, 1 << 32, 1<<32 + 128, math.MaxInt} {
		noPage(t, some, "", p, api.ErrArg)
	}
}

// P7.1: one field after the other may not be.
func TestSealHeads(t *testing.T) {
	for _, p := range sizes {
		for _, h := range append(endHeads(), some) {
			if s := mustSeal(t, h, "abc", p); s != pageOf(h, "abc", p) {
				t.Fatalf("%v, %d bytes: %q", h, p, s)
			}
		}
		for _, h := range wrongHeads(some) {
			noPage(t, h, "abc", p, api.ErrForm)
		}
		noPage(t, Head{}, "", p, api.ErrForm)
	}
}

// P7.1: a body of each length that there is room for, and of more.
func TestSealBodies(t *testing.T) {
	source := rand.New(rand.NewSource(71))
	for _, p := range sizes {
		for n := range p - 16 + 1 {
			body := anyText(source, n)
			s := mustSeal(t, some, body, p)
			if s != pageOf(some, body, p) || len(s) != p || s[16:16+n] != body || strings.Trim(s[16+n:], "\x00") != "" {
				t.Fatalf("a body of %d bytes on a page of %d: %q", n, p, s)
			}
		}
		for _, n := range []int{p - 15, p - 14, p - 12, p, p + 1, 2 * p, 1 << 20} {
			noPage(t, some, strings.Repeat("a", n), p, api.ErrBig)
			noPage(t, some, strings.Repeat("\x00", n), p, api.ErrBig)
		}
	}
}

// P7.1, R2: of two errors or three the size's comes first, then the head's, then the body's.
func TestSealErrorsInOrder(t *testing.T) {
	long := strings.Repeat("a", 2000)
	for _, p := range []int{math.MinInt, -128, -1, 0, 15, 16, 17, 127, 129, 384, 1023, 1025, 2048, math.MaxInt} {
		for _, h := range append(wrongHeads(some), some) {
			noPage(t, h, long, p, api.ErrArg)
			noPage(t, h, "", p, api.ErrArg)
		}
	}
	for _, p := range sizes {
		for _, h := range wrongHeads(some) {
			noPage(t, h, long, p, api.ErrForm)
			noPage(t, h, long[:p-15], p, api.ErrForm)
			noPage(t, h, long[:p-16], p, api.ErrForm)
		}
		noPage(t, some, long, p, api.ErrBig)
	}
}

// P7.1: where each field stands, the lowest byte first; but for the sum no other byte hangs on it.
func TestSealFields(t *testing.T) {
	body := anyText(rand.New(rand.NewSource(72)), 112)
	places := []struct{ at, size int }{{0, 1}, {1, 1}, {2, 2}, {4, 4}, {8, 4}}
	for _, p := range sizes {
		base := mustSeal(t, some, body, p)
		for i, x := range ends {
			at, size := places[i].at, places[i].size
			for n := x.least; n <= x.most; n += 1 + (x.most-x.least)/300 {
				s := mustSeal(t, with(some, i, n), body, p)
				if s[:at] != base[:at] || s[at+size:12] != base[at+size:12] || s[16:] != base[16:] {
					t.Fatalf("%s %d changed other bytes: %q", x.name, n, s)
				}
				told := 0
				for k := range size {
					told |= int(s[at+k]) << (8 * k)
				}
				if told != n {
					t.Fatalf("%s %d is told as %d", x.name, n, told)
				}
			}
		}
	}
}

// P7.1: the sum is that of all bytes, its own as 0, and stands from 12 on, its lowest byte first.
func TestSealSum(t *testing.T) {
	source := rand.New(rand.NewSource(73))
	for _, p := range sizes {
		for range 200 {
			h, body := anyHead(source), anyText(source, source.Intn(p-15))
			if s := mustSeal(t, h, body, p); s != summed(s) {
				t.Fatalf("%v, a body of %d bytes: the sum is %q", h, len(body), s[12:16])
			}
		}
	}
	const exampleSum = "\x29\x58\x4f\xcc" // worked out elsewhere, bit by bit
	s := mustSeal(t, Head{Kind: Leaf, Self: 3}, "", 128)
	if s[12:16] != exampleSum {
		t.Fatalf("the sum of the chapter's example is %q", s[12:16])
	}
}

// P7.2: of all numbers of bytes that a page doesn't have.
func TestOpenSizes(t *testing.T) {
	source := rand.New(rand.NewSource(74))
	for n := range 1200 {
		s := anyText(source, n)
		if n >= 16 {
			// All is right but for the size.
			s = summed("\x02" + strings.Repeat("\x00", 15) + s[16:])
		}
		if slices.Contains(sizes, n) {
			opens(t, s, Head{Kind: Leaf}, s[16:])
			continue
		}
		none(t, s)
	}
	for _, p := range sizes {
		s := mustSeal(t, some, "abc", p)
		for _, cut := range []int{0, 1, 2, 4, 8, 12, 15, 16, 17, p - 1} {
			none(t, s[:cut])
			none(t, s[p-cut:])
		}
		none(t, s+"\x00")
		none(t, "\x00"+s)
		none(t, s+s)
		none(t, s+s+s)
		none(t, s[:p/2])
		none(t, strings.Repeat(s, 16))
		none(t, strings.Repeat("\x00", p))
		none(t, strings.Repeat("\xff", p))
	}
}

// P7.2: heads that may not be, of pages whose sum is right.
func TestOpenHeads(t *testing.T) {
	for _, p := range sizes {
		body := filled("abc", p)
		page := pageOf(some, body, p)
		laid := func(at int, change ...byte) string {
			return summed(page[:at] + string(change) + page[at+len(change):])
		}
		for kind := range 256 {
			s := laid(0, byte(kind))
			if kind >= 1 && kind <= 4 {
				opens(t, s, with(some, 0, kind), body)
				continue
			}
			none(t, s)
		}
		for _, at := range []int{4, 8} {
			opens(t, laid(at, 0xff, 0x0f, 0, 0), with(some, 2+at/4, 4095), body)
			opens(t, laid(at, 0, 0, 0, 0), with(some, 2+at/4, 0), body)
			for _, n := range []string{"\x00\x10\x00\x00", "\x01\x10\x00\x00", "\x00\x20\x00\x00", "\xff\xff\x00\x00", "\x00\x00\x01\x00", "\x01\x00\x00\x01", "\x01\x00\x00\x80", "\xff\xff\xff\xff", "\xff\xff\xff\x7f"} {
				none(t, laid(at, []byte(n)...))
			}
		}
		none(t, summed(strings.Repeat("\x00", p)))
		none(t, summed(strings.Repeat("\xff", p)))
		// All of Level and of Count may be.
		opens(t, laid(1, 255, 255, 255), Head{Kind: some.Kind, Level: 255, Count: 65535, Right: some.Right, Self: some.Self}, body)
		opens(t, laid(1, 0, 0, 0), Head{Kind: some.Kind, Right: some.Right, Self: some.Self}, body)
	}
}

// P7.2: all sums but one, as far as one byte of it, or one bit of each, is another.
func TestOpenSum(t *testing.T) {
	for _, p := range sizes {
		s := mustSeal(t, some, "abc", p)
		for at := 12; at < 16; at++ {
			for change := 1; change < 256; change++ {
				none(t, other(s, at, byte(change)))
			}
		}
		for change := 1; change < 1<<16; change += 251 {
			none(t, other(s, 12, byte(change), byte(change>>8), byte(change>>4), byte(change>>6)))
		}
		none(t, s[:12]+"\x00\x00\x00\x00"+s[16:])
		none(t, s[:12]+"\xff\xff\xff\xff"+s[16:])
		// The same bytes, the highest first, and with all bits turned.
		none(t, s[:12]+string([]byte{s[15], s[14], s[13], s[12]})+s[16:])
		none(t, other(s, 12, 255, 255, 255, 255))
		// The sums of all bytes with the right sum among them, of those without a sum, and of those behind it alone.
		none(t, s[:12]+sumOf(s)+s[16:])
		none(t, s[:12]+sumOf(s[:12]+s[16:])+s[16:])
		none(t, s[:12]+sumOf(s[16:])+s[16:])
	}
}

// P7.3: each single byte is another one, by all changes; two, three or four one behind the other, by many; at each place ahead of the sum, in it and behind it.
func TestOpenOtherBytes(t *testing.T) {
	source := rand.New(rand.NewSource(75))
	for _, p := range sizes {
		s := mustSeal(t, some, anyText(source, p-16), p)
		step := 1 + p/256
		for at := range p {
			for change := 1; change < 256; change += step {
				none(t, other(s, at, byte(change)))
			}
		}
		for _, width := range []int{2, 3, 4} {
			for at := 0; at+width <= p; at++ {
				// Of a change that goes from one part into another the promise says nothing.
				if at < 12 && at+width > 12 || at < 16 && at+width > 16 {
					continue
				}
				for range 8 {
					change := []byte(anyText(source, width))
					change[0] |= 1
					change[width-1] |= 128
					none(t, other(s, at, change...))
				}
			}
		}
	}
}

// P7.3: Level and Count may be all numbers, and Right and Self many: what part of the head's bytes is another one, the head may be still, and the sum alone tells it.
func TestOpenOtherHeads(t *testing.T) {
	source := rand.New(rand.NewSource(76))
	for _, p := range sizes {
		for range 3000 {
			h := anyHead(source)
			s := mustSeal(t, h, "abc", p)
			changed := h
			switch source.Intn(4) {
			case 0:
				changed.Level, changed.Count = source.Intn(256), source.Intn(65536)
			case 1:
				changed.Right = source.Intn(4096)
			case 2:
				changed.Self = source.Intn(4096)
			default:
				changed.Kind, changed.Level, changed.Count = 1+source.Intn(4), source.Intn(256), source.Intn(65536)
			}
			if changed == h {
				continue
			}
			ahead := pageOf(changed, "abc", p)[:12]
			none(t, ahead+s[12:])
		}
	}
}

// P7.3: each single bit of four bytes changes the sum by bits of its own, so that no mix of them leaves it.
// As a sum changes by exclusive or of what each bit changes, 32 changes of full rank tell it for all changes of four bytes.
func TestNoChangeOfFourBytesLeavesTheSum(t *testing.T) {
	source := rand.New(rand.NewSource(77))
	for _, p := range sizes {
		body := anyText(source, p-16)
		s := mustSeal(t, some, body, p)
		for at := 0; at+4 <= len(body); at++ {
			if got := rank(changes(t, s, body, at)); got != 32 {
				t.Fatalf("of a page of %d bytes, at %d: rank %d; want 32", p, 16+at, got)
			}
		}
	}
}

// changes answers by what the sum of a page is another one, for each bit of four bytes of its body.
func changes(t *testing.T, s, body string, at int) []uint32 {
	t.Helper()
	var out []uint32
	for bit := range 32 {
		change := [4]byte{}
		change[bit/8] = 1 << (bit % 8)
		changed := mustSeal(t, some, other(body, at, change[:]...), len(s))
		n := uint32(0)
		for k := range 4 {
			n |= uint32(changed[12+k]^s[12+k]) << (8 * k)
		}
		out = append(out, n)
	}
	return out
}

// rank answers how many of the numbers no exclusive or of others tells.
func rank(numbers []uint32) int {
	var leads [32]uint32
	count := 0
	for _, n := range numbers {
		for bit := 31; bit >= 0 && n != 0; bit-- {
			if n>>bit == 0 {
				continue
			}
			if leads[bit] == 0 {
				leads[bit] = n
				count++
				break
			}
			n ^= leads[bit]
		}
	}
	return count
}

// P7.3: heads and bodies at their ends, at each size.
func TestOpenedAsSealed(t *testing.T) {
	for _, p := range sizes {
		for _, h := range append(endHeads(), some) {
			for _, body := range []string{"", "\x00", "a", "a\x00", strings.Repeat("\x00", p-16), strings.Repeat("\xff", p-16), strings.Repeat("\xff", p-17), strings.Repeat("\x00", p-17) + "a"} {
				opens(t, mustSeal(t, h, body, p), h, filled(body, p))
			}
		}
	}
}

// P7.1 to P7.3: many heads and bodies of chance, some of which may not be, held against the chapter's words.
func TestSealOfChance(t *testing.T) {
	source := rand.New(rand.NewSource(78))
	for range 20000 {
		p := sizes[source.Intn(4)]
		h, body := anyHead(source), anyText(source, source.Intn(p-15))
		switch source.Intn(12) {
		case 0:
			l := wrongHeads(h)
			h = l[source.Intn(len(l))]
		case 1:
			body += anyText(source, p-16-len(body)+source.Intn(3))
		case 2:
			p += source.Intn(3) - 1
		}
		s, e := Seal(h, body, p)
		if want, wantErrno := sealOf(h, body, p); s != want || e != wantErrno {
			t.Fatalf("Seal(%v, %d bytes, %d): %.20q, %d; want %.20q, %d", h, len(body), p, s, e, want, wantErrno)
		}
		if e == api.OK {
			opens(t, s, h, filled(body, p))
		}
	}
}

// P7.2: bytes of chance, most with a right sum, held against the chapter's words; what opens is sealed again as it was.
func TestOpenOfChance(t *testing.T) {
	source := rand.New(rand.NewSource(79))
	opened := 0
	for range 30000 {
		p := sizes[source.Intn(4)]
		s := anyText(source, p)
		if source.Intn(3) > 0 {
			ahead := []byte(s[:12])
			ahead[0], ahead[5], ahead[6], ahead[7] = byte(source.Intn(6)), byte(source.Intn(18)), byte(source.Intn(9)/8), 0
			ahead[9], ahead[10], ahead[11] = byte(source.Intn(18)), 0, byte(source.Intn(9)/8)
			s = string(ahead) + s[12:]
		}
		if source.Intn(5) > 0 {
			s = summed(s)
		}
		if source.Intn(20) == 0 {
			s = s[source.Intn(2):]
		}
		h, body, e := Open(s)
		if wantHead, wantBody, want := openOf(s); h != wantHead || body != wantBody || e != want {
			t.Fatalf("Open of %d bytes, %.20q: %v, %.20q, %d; want %v, %.20q, %d", len(s), s, h, body, e, wantHead, wantBody, want)
		}
		if e != api.OK {
			continue
		}
		opened++
		if again := mustSeal(t, h, body, len(s)); again != s {
			t.Fatalf("%.20q is sealed again as %.20q", s, again)
		}
	}
	if opened < 3000 {
		t.Fatalf("no more than %d pages opened", opened)
	}
}

// R4: what is handed in isn't kept, and what is answered is new memory.
func TestBytesAreNew(t *testing.T) {
	apart := func(a, b string) {
		t.Helper()
		one, two := uintptr(unsafe.Pointer(unsafe.StringData(a))), uintptr(unsafe.Pointer(unsafe.StringData(b)))
		if one < two+uintptr(len(b)) && two < one+uintptr(len(a)) {
			t.Fatal("two texts share memory")
		}
	}
	for _, p := range sizes {
		body := strings.Repeat("b", p-16)
		one, two := mustSeal(t, some, body, p), mustSeal(t, some, body, p)
		apart(one, body)
		apart(one, two)
		_, first, _ := Open(one)
		_, second, _ := Open(one)
		apart(first, one)
		apart(first, second)
		apart(first, body)
	}
}

// R4, R5: what was handed in and told stays as it was, whatever is done afterwards, and the same call tells the same again.
func TestAnswersStay(t *testing.T) {
	source := rand.New(rand.NewSource(80))
	body := anyText(source, 100)
	s := mustSeal(t, some, body, 128)
	h, opened, _ := Open(s)
	wasBody, was, wasOpened := strings.Clone(body), strings.Clone(s), strings.Clone(opened)
	for range 2000 {
		p := sizes[source.Intn(4)]
		Seal(anyHead(source), anyText(source, source.Intn(p)), p)
		Open(other(s, source.Intn(128), byte(source.Intn(256))))
		Seal(Head{}, body, 128)
		Open(s[1:])
	}
	if body != wasBody || s != was || opened != wasOpened || h != some {
		t.Fatal("what was told is another thing now")
	}
	if again := mustSeal(t, some, body, 128); again != was {
		t.Fatal("the same call tells another page")
	}
	opens(t, s, some, wasOpened)
}

// Ways: what is wrong is told by an error that is wrapped, with what it is about ahead of it.
func TestFaults(t *testing.T) {
	for _, x := range []struct {
		h    Head
		n, p int
		is   error
		text string
	}{
		{some, 0, 127, api.ErrArg, "a page's size: error"},
		{with(some, 0, 5), 0, 128, api.ErrForm, "head: Kind: error"},
		{with(some, 1, 256), 0, 128, api.ErrForm, "head: Level: error"},
		{with(some, 2, -1), 0, 128, api.ErrForm, "head: Count: error"},
		{with(some, 3, 4096), 0, 128, api.ErrForm, "head: Right: error"},
		{with(some, 4, -1), 0, 128, api.ErrForm, "head: Self: error"},
		{some, 113, 128, api.ErrBig, "body: error"},
	} {
		err := sealable(x.h, strings.Repeat("a", x.n), x.p)
		if err == nil || !errors.Is(err, x.is) || err.Error() != x.text {
			t.Fatalf("%v, %d bytes, %d: %v; want %q", x.h, x.n, x.p, err, x.text)
		}
	}
	if err := sealable(some, strings.Repeat("a", 112), 128); err != nil {
		t.Fatal(err)
	}
}
