package long_test

import (
	"math"
	"math/rand"
	"slices"
	"strings"
	"testing"
	"unsafe"

	"withy/api"
	"withy/chain"
	"withy/head"
	"withy/long"
	"withy/page"
)

// below are numbers below 0.
var below = []int{math.MinInt, math.MinInt + 1, math.MinInt + 36, math.MinInt + 4096, -1 << 32, -1<<32 + 1, -1<<32 + 128, -1<<31 + 1, -65536, -4097, -4096, -4095, -1024, -128, -3, -2, -1}

// great are numbers that are above all that may be.
var great = []int{4097, 4098, 4351, 4352, 8191, 8192, 1<<16 + 1, 1<<16 + 128, 1<<31 - 1, 1 << 31, 1<<32 - 1, 1 << 32, 1<<32 + 1, 1<<32 + 128, 1<<32 + 4095, 1 << 62, math.MaxInt - 4096, math.MaxInt - 36, math.MaxInt - 1, math.MaxInt}

// noSizes are numbers of bytes that no page has.
var noSizes = slices.Concat(below, []int{0, 1, 2, 15, 16, 17, 64, 100, 112, 127, 129, 144, 192, 255, 257, 384, 511, 513, 768, 1023, 1025, 2048, 4096}, great)

// spills looks whether Spill tells pages, just those that the model tells.
func spills(t *testing.T, value string, first, p int) []string {
	t.Helper()
	want, e := spillOf(value, first, p)
	if e != api.OK {
		t.Fatalf("the model doesn't spill %d bytes from %d on, %d: %d", len(value), first, p, e)
	}
	got, e := long.Spill(value, first, p)
	if !slices.Equal(got, want) || e != api.OK {
		t.Fatalf("Spill of %d bytes, %d, %d: %.300q, %d; want %.300q", len(value), first, p, got, e, want)
	}
	return got
}

// noSpill looks whether Spill tells an error, as the model does, and nothing beside it.
func noSpill(t *testing.T, want api.Errno, value string, first, p int) {
	t.Helper()
	if _, e := spillOf(value, first, p); e != want {
		t.Fatalf("the model tells %d of %d bytes, %d, %d; want %d", e, len(value), first, p, want)
	}
	if got, e := long.Spill(value, first, p); len(got) != 0 || e != want {
		t.Fatalf("Spill of %d bytes, %d, %d: %d pages, %d; want %d", len(value), first, p, len(got), e, want)
	}
}

// loads looks whether Load tells a value and the numbers of its pages, as the model does.
func loads(t *testing.T, l []string, p int, value string, places ...int) {
	t.Helper()
	if got, numbers, e := loadOf(l, p, places[0], len(value)); got != value || !slices.Equal(numbers, places) || e != api.OK {
		t.Fatalf("the model tells %d bytes on %v, %d; want %d on %v", len(got), numbers, e, len(value), places)
	}
	got, numbers, e := long.Load(l, p, places[0], len(value))
	if got != value || !slices.Equal(numbers, places) || e != api.OK {
		t.Fatalf("Load of %d bytes from %d on, %d: %.300q on %v, %d; want %.300q on %v", len(value), places[0], p, got, numbers, e, value, places)
	}
}

// noLoad looks whether Load tells an error, as the model does, and nothing beside it.
func noLoad(t *testing.T, want api.Errno, l []string, p, first, n int) {
	t.Helper()
	if _, _, e := loadOf(l, p, first, n); e != want {
		t.Fatalf("the model tells %d of %d bytes from %d on, %d; want %d", e, n, first, p, want)
	}
	if got, numbers, e := long.Load(l, p, first, n); got != "" || len(numbers) != 0 || e != want {
		t.Fatalf("Load of %d bytes from %d on, %d: %.300q on %v, %d; want %d", n, first, p, got, numbers, e, want)
	}
}

// asModel looks whether Load tells what the model does, and answers the error.
func asModel(t *testing.T, l []string, p, first, n int) api.Errno {
	t.Helper()
	value, numbers, e := loadOf(l, p, first, n)
	if e == api.OK {
		loads(t, l, p, value, numbers...)
	} else {
		noLoad(t, e, l, p, first, n)
	}
	return e
}

// lengths answers some around all whole numbers of full pages, from 1 to 4096.
func lengths(p int) []int {
	out := []int{1, 2, 4094, 4095, 4096}
	for n := p - 16; n < 4094; n += p - 16 {
		out = append(out, n-1, n, n+1)
	}
	return out
}

// The chapter's example.
func TestExample(t *testing.T) {
	l := spills(t, text(113), 4, 128)
	if len(l) != 2 {
		t.Fatalf("%d pages", len(l))
	}
	for i, want := range []chain.Chain{{Self: 4, Next: 5, Data: text(113)[:112]}, {Self: 5, Data: text(113)[112:]}} {
		if c, e := chain.Decode(l[i]); c != want || len(l[i]) != 128 || e != api.OK {
			t.Fatal(i, c, len(l[i]), e)
		}
	}
	loads(t, append(others(t, 4, 128), l...), 128, text(113), 4, 5)
}

// P15.1: the bytes of a page, place by place, with a sum that was worked out once by other means.
func TestSpillPlaces(t *testing.T) {
	got, e := long.Spill("abc", 5, 128)
	if e != api.OK || len(got) != 1 || got[0] != "\x04\x00\x03\x00"+"\x00\x00\x00\x00"+"\x05\x00\x00\x00"+"\xf8\x14\xdb\xb7"+"abc"+strings.Repeat("\x00", 109) {
		t.Fatalf("%q, %d", got, e)
	}
}

// P15.1: values of no bytes, of one, of as many as there may be, of more, and around all whole numbers of full pages.
func TestSpillLengths(t *testing.T) {
	for _, p := range sizes {
		for _, first := range []int{1, 2, 255, 256, 1000, 4096 - chain.Pages(4096, p)} {
			for _, n := range lengths(p) {
				if l := spills(t, text(n), first, p); len(l) != (n+p-17)/(p-16) {
					t.Fatalf("%d pages of %d bytes", len(l), n)
				}
				spills(t, strings.Repeat("\x00", n), first, p)
			}
			for _, n := range []int{0, 4097, 4098, 4351, 4352, 5000, 8191, 8192, 8193, 1<<16 + 1, 1<<16 + 112, 1 << 20} {
				noSpill(t, api.ErrForm, text(n), first, p)
			}
		}
	}
}

// P15.1: each length there may be, and some above.
func TestSpillAllLengths(t *testing.T) {
	for n := 1; n < 4300; n++ {
		p := sizes[n%4]
		if n <= 4096 {
			spills(t, text(n), 1+n%2000, p)
		} else {
			noSpill(t, api.ErrForm, text(n), 1+n%2000, p)
		}
	}
}

// P15.1: the first number is 1, or 0, or below; the last one is 4095, or 4096, or above.
func TestSpillNumbers(t *testing.T) {
	for _, p := range sizes {
		for _, n := range lengths(p) {
			count := chain.Pages(n, p)
			for _, first := range []int{1, 2, 3, 2048 - count, 2047, 4095 - count, 4096 - count} {
				spills(t, text(n), first, p)
			}
			for first := 4097 - count; first <= 4096; first++ {
				noSpill(t, api.ErrFull, text(n), first, p)
			}
			for _, first := range great {
				noSpill(t, api.ErrFull, text(n), first, p)
			}
			for _, first := range append([]int{0}, below...) {
				noSpill(t, api.ErrArg, text(n), first, p)
			}
		}
	}
	for first := 1; first < 4300; first++ {
		p := sizes[first%4]
		if first <= 4094 {
			spills(t, text(p-15), first, p)
		} else {
			noSpill(t, api.ErrFull, text(p-15), first, p)
		}
		if first <= 4095 {
			spills(t, text(p-16), first, p)
		} else {
			noSpill(t, api.ErrFull, text(p-16), first, p)
		}
	}
}

// P15.1: sizes that no page has.
func TestSpillSizes(t *testing.T) {
	for _, p := range noSizes {
		for _, n := range []int{1, 112, 113, 4095, 4096} {
			noSpill(t, api.ErrArg, text(n), 1, p)
		}
	}
	for p := -300; p < 2100; p++ {
		if slices.Contains(sizes, p) {
			spills(t, text(300), 1, p)
		} else {
			noSpill(t, api.ErrArg, text(300), 1, p)
		}
	}
}

// P15.1, R2: of several things that are wrong a size or a first number is told first, then the value, then a full file.
func TestSpillErrorsInOrder(t *testing.T) {
	firsts := slices.Concat(below, []int{0, 1, 4095, 4096}, great)
	for _, value := range []string{"", text(4096), text(4097), text(1 << 17)} {
		for _, first := range firsts {
			for _, p := range noSizes {
				noSpill(t, api.ErrArg, value, first, p)
			}
			for _, p := range sizes {
				switch {
				case first < 1:
					noSpill(t, api.ErrArg, value, first, p)
				case len(value) != 4096:
					noSpill(t, api.ErrForm, value, first, p)
				case first > 4090:
					noSpill(t, api.ErrFull, value, first, p)
				}
			}
		}
	}
}

// P15.1: each page is a chain page at its number, leads to the next one, the last one to 0, and has as many bytes as there may be, but the last one.
func TestSpillIsChainPages(t *testing.T) {
	for _, p := range sizes {
		for _, first := range []int{1, 77} {
			for _, n := range lengths(p) {
				spilt := spills(t, text(n), first, p)
				l := append(make([]string, first), spilt...)
				all := ""
				for i := range spilt {
					last := i == len(spilt)-1
					x, e := page.At(l, first+i)
					if e != api.OK || x.Kind != head.Chain || len(spilt[i]) != p || x.C.Self != first+i {
						t.Fatalf("page %d of %d is none: %+v, %d", i, len(spilt), x, e)
					}
					if !last && (x.C.Next != first+i+1 || len(x.C.Data) != p-16) || last && (x.C.Next != 0 || len(x.C.Data) != n-i*(p-16)) {
						t.Fatalf("page %d of %d leads to %d, and has %d bytes", i, len(spilt), x.C.Next, len(x.C.Data))
					}
					all += x.C.Data
				}
				if all != text(n) {
					t.Fatalf("%q", all)
				}
			}
		}
	}
}

// P15.2, P15.3: what was spilt, alone, ahead of other pages, behind and among them, and at the greatest numbers there are.
func TestLoadWhatWasSpilt(t *testing.T) {
	for _, p := range sizes {
		rest := others(t, 60, p)
		empty := make([]string, 4096)
		for _, n := range lengths(p) {
			value := text(n)
			count := chain.Pages(n, p)
			for _, first := range []int{1, 2, 20, 60} {
				spilt := spills(t, value, first, p)
				loads(t, append(rest[:first:first], spilt...), p, value, from(first, count)...)
				l := slices.Concat(rest[:first], spilt, rest[:5])
				loads(t, l, p, value, from(first, count)...)
				loads(t, append(make([]string, first), spilt...), p, value, from(first, count)...)
			}
			l := append(empty[:4096-count:4096-count], spills(t, value, 4096-count, p)...)
			loads(t, l, p, value, from(4096-count, count)...)
		}
	}
	// Pages behind the last one that a file may have say nothing.
	l := append(append(make([]string, 4059), spills(t, text(4096), 4059, 128)...), make([]string, 300)...)
	loads(t, l, 128, text(4096), from(4059, 37)...)
}

// P15.3: pages of values at any places, that rise, that fall, that go by turns, and of chance, several values in one file.
func TestLoadWherever(t *testing.T) {
	for _, p := range sizes {
		l := others(t, 12, p)
		value := text(2*p - 40)
		for _, places := range [][]int{{1, 2}, {2, 1}, {1, 11}, {11, 1}, {10, 9}, {5, 8}} {
			here := slices.Clone(l)
			lay(here, value, p, 0, places...)
			loads(t, here, p, value, places...)
		}
		lay(l, text(p-16), p, 0, 6)
		lay(l, text(3*p-48), p, 0, 9, 1, 8)
		lay(l, text(4*p-66), p, 0, 11, 2, 3, 10)
		loads(t, l, p, text(p-16), 6)
		loads(t, l, p, text(3*p-48), 9, 1, 8)
		loads(t, l, p, text(4*p-66), 11, 2, 3, 10)
	}
	source := rand.New(rand.NewSource(151))
	for range 300 {
		p := sizes[source.Intn(4)]
		l := others(t, 90, p)
		free := source.Perm(89)
		for i := range free {
			free[i]++
		}
		values, at := []string{}, [][]int{}
		for range 2 {
			value := anyText(source, 1+source.Intn(4096))
			count := chain.Pages(len(value), p)
			lay(l, value, p, 0, free[:count]...)
			values, at, free = append(values, value), append(at, free[:count]), free[count:]
		}
		loads(t, l, p, values[0], at[0]...)
		loads(t, l, p, values[1], at[1]...)
	}
}

// P15.2: lengths that are not the value's: of the same pages, of less, and of more.
func TestLoadOtherLengths(t *testing.T) {
	for _, p := range sizes {
		room := p - 16
		for _, m := range []int{1, 2, room - 1, room, room + 1, 2*room - 1, 2 * room, 2*room + 1, 3*room - 5} {
			l := append(others(t, 9, p), spills(t, text(m), 9, p)...)
			count := chain.Pages(m, p)
			loads(t, l, p, text(m), from(9, count)...)
			for n := 1; n <= 4096; n++ {
				if n > m+2 && n%room > 2 && n%101 != 0 {
					continue
				}
				switch {
				case n == m:
				case chain.Pages(n, p) < count:
					noLoad(t, api.ErrLoop, l, p, 9, n)
				default:
					noLoad(t, api.ErrForm, l, p, 9, n)
				}
			}
			for _, n := range slices.Concat(below, []int{0}, great) {
				noLoad(t, api.ErrArg, l, p, 9, n)
			}
		}
		// The longest value, and one byte less, of which other lengths are asked.
		for _, m := range []int{4095, 4096} {
			l := append(others(t, 3, p), spills(t, text(m), 3, p)...)
			count := chain.Pages(m, p)
			loads(t, l, p, text(m), from(3, count)...)
			noLoad(t, api.ErrForm, l, p, 3, 8191-m)
			noLoad(t, api.ErrLoop, l, p, 3, (count-1)*room)
			noLoad(t, api.ErrLoop, l, p, 3, 1)
			noLoad(t, api.ErrArg, l, p, 3, 4097)
			noLoad(t, api.ErrArg, l, p, 3, 0)
		}
	}
}

// P15.2: first numbers that are no place of the file's, and those of the last page, and of another page of the value.
func TestLoadFirst(t *testing.T) {
	for _, p := range sizes {
		value := text(3*p - 50)
		l := append(others(t, 5, p), spills(t, value, 5, p)...)
		for n := 1; n < 5*p && n <= 4096; n += 7 {
			for _, first := range slices.Concat(below, []int{0, 1, 2, 4, 8, 9, 10, 127, 128, 4095, 4096}, great) {
				noLoad(t, api.ErrForm, l, p, first, n)
			}
		}
		loads(t, l, p, value, 5, 6, 7)
		loads(t, l, p, value[p-16:], 6, 7)
		loads(t, l, p, value[2*p-32:], 7)
		noLoad(t, api.ErrForm, l, p, 6, len(value))
		noLoad(t, api.ErrForm, l, p, 7, len(value))
		noLoad(t, api.ErrForm, l[:7], p, 5, len(value))
		noLoad(t, api.ErrForm, l[:7], p, 7, len(value)-2*p+32)
		// A place behind the list's end is none, though the room behind it has pages.
		noLoad(t, api.ErrForm, l[:5], p, 5, len(value))
		noLoad(t, api.ErrForm, l[:0], p, 5, len(value))
	}
}

// P15.2: no pages.
func TestLoadOfNoPages(t *testing.T) {
	for _, l := range [][]string{nil, {}, make([]string, 0, 9), {""}, make([]string, 5)} {
		for _, p := range sizes {
			for _, first := range slices.Concat(below, []int{0, 1, 2, 4, 5, 4095, 4096}, great) {
				for _, n := range []int{1, 112, 113, 4096} {
					noLoad(t, api.ErrForm, l, p, first, n)
				}
				for _, n := range slices.Concat(below, []int{0}, great) {
					noLoad(t, api.ErrArg, l, p, first, n)
				}
			}
		}
	}
}

// P15.2: sizes that no page has, and such as the file's pages don't have.
func TestLoadSizes(t *testing.T) {
	for _, p := range sizes {
		l := append(others(t, 3, p), spills(t, text(2*p), 3, p)...)
		one := append(others(t, 3, p), spills(t, text(100), 3, p)...)
		for _, q := range noSizes {
			noLoad(t, api.ErrArg, l, q, 3, 2*p)
			noLoad(t, api.ErrArg, one, q, 3, 100)
		}
		for _, q := range sizes {
			if q == p {
				loads(t, l, q, text(2*p), 3, 4, 5)
				loads(t, one, q, text(100), 3)
			} else {
				noLoad(t, api.ErrForm, l, q, 3, 2*p)
				noLoad(t, api.ErrForm, one, q, 3, 100)
			}
		}
	}
}

// nones answers texts that are no chain page of p bytes at a place, which leads to next, and has some bytes.
func nones(t *testing.T, self, next int, data string, p int) []string {
	t.Helper()
	s := sealed(self, next, data, p)
	other := 11
	out := []string{"", "x", s[:p-1], s + "\x00", s[:p/2], s + s, strings.Repeat("\x00", p), strings.Repeat("x", p)}
	out = append(out, s[:p-1]+string([]byte{s[p-1] ^ 1}), s[:12]+"\x00\x00\x00\x00"+s[16:])
	// Pages of all other Kinds, at that place, and a chain page at another one.
	out = append(out, others(t, self+2, p)[self], others(t, self+2, p)[self+1], others(t, 1, p)[0])
	out = append(out, sealed(other, next, data, p), sealed(self+1, next, data, p), sealed(0, next, data, p), sealed(self+256, next, data, p))
	// Chain pages of another size that are full, of the same bytes, or of what there is room for.
	for _, q := range sizes {
		if q != p {
			out = append(out, sealed(self, next, text(q-16), q), sealed(self, 0, data[:min(len(data), q-16)], q))
		}
	}
	// What can't be a chain page's: no bytes, some less with a next one, and one that leads to itself, or where there never is a page.
	out = append(out, sealed(self, 0, "", p), sealed(self, other, data[:len(data)-1], p), sealed(self, self, text(p-16), p), sealed(self, 4096, text(p-16), p), sealed(self, -1, text(p-16), p))
	return out
}

// P15.2: values of which one page is none, another Kind's, another place's, or of another size.
func TestLoadOfPagesThatAreNone(t *testing.T) {
	for _, p := range sizes {
		room := p - 16
		value := text(3*room + room/2)
		places := []int{4, 7, 2, 9}
		l := others(t, 12, p)
		lay(l, value, p, 0, places...)
		loads(t, l, p, value, places...)
		for i, at := range places {
			next, data := 0, value[i*room:]
			if i < 3 {
				next, data = places[i+1], value[i*room:(i+1)*room]
			}
			for _, s := range nones(t, at, next, data, p) {
				here := slices.Clone(l)
				here[at] = s
				noLoad(t, api.ErrForm, here, p, 4, len(value))
			}
			// Two pages that changed their places.
			here := slices.Clone(l)
			here[at], here[11] = here[11], here[at]
			noLoad(t, api.ErrForm, here, p, 4, len(value))
			here = slices.Clone(l)
			here[at], here[places[(i+1)%4]] = here[places[(i+1)%4]], here[at]
			noLoad(t, api.ErrForm, here, p, 4, len(value))
			// All ahead of the file's end are there, but this one is behind it.
			noLoad(t, api.ErrForm, l[:at], p, 4, len(value))
		}
		one := others(t, 6, p)
		for _, s := range nones(t, 4, 0, text(room), p) {
			one[4] = s
			noLoad(t, api.ErrForm, one, p, 4, room)
		}
	}
}

// P15.2: pages of which one but the last tells Next 0.
func TestLoadThatEndsTooEarly(t *testing.T) {
	for _, p := range sizes {
		room := p - 16
		for count := 2; count <= 4096/room; count++ {
			value := text(count * room)
			l := append(others(t, 2, p), spills(t, value, 2, p)...)
			loads(t, l, p, value, from(2, count)...)
			for i := range count - 1 {
				for _, data := range []string{value[i*room : (i+1)*room], "x"} {
					here := slices.Clone(l)
					here[2+i] = sealed(2+i, 0, data, p)
					noLoad(t, api.ErrForm, here, p, 2, count*room)
					noLoad(t, api.ErrForm, here, p, 2, count*room-1)
					noLoad(t, api.ErrForm, here, p, 2, i*room+room+1)
				}
			}
		}
	}
}

// P15.2: pages of which the last one tells another Next than 0, wherever that leads.
func TestLoadThatLeadsOn(t *testing.T) {
	for _, p := range sizes {
		room := p - 16
		for _, count := range []int{1, 2, 3, 4} {
			value := text(count * room)
			places := []int{5, 3, 8, 1}[:count]
			last := places[count-1]
			for _, next := range []int{1, 2, 3, 4, 5, 6, 7, 8, 9, 10, 11, 12, 255, 256, 4095} {
				if next == last {
					continue
				}
				l := others(t, 11, p)
				l[10] = sealed(10, 0, "x", p)
				l[9] = "none"
				lay(l, value, p, next, places...)
				noLoad(t, api.ErrLoop, l, p, 5, len(value))
				noLoad(t, api.ErrLoop, l, p, 5, len(value)-1)
				noLoad(t, api.ErrLoop, l, p, 5, len(value)-room+1)
			}
			// What leads to itself, or where there never is a page, or has room left, is no chain page.
			for _, s := range []string{sealed(last, last, text(room), p), sealed(last, 4096, text(room), p), sealed(last, -1, text(room), p), sealed(last, 9, text(room-1), p)} {
				l := others(t, 11, p)
				lay(l, value, p, 0, places...)
				l[last] = s
				noLoad(t, api.ErrForm, l, p, 5, len(value))
				noLoad(t, api.ErrForm, l, p, 5, len(value)-1)
			}
		}
	}
}

// P15.2, P15.3: pages that lead back to any of those ahead, and so round, for each length of the round, and each that is asked.
func TestLoadOfWhatGoesRound(t *testing.T) {
	for _, p := range sizes {
		room := p - 16
		for count := 2; count <= 5; count++ {
			for back := 1; back < count; back++ {
				l := others(t, 1, p)
				for i := 1; i <= count; i++ {
					l = append(l, sealed(i, i%count+1, text(room), p))
				}
				l[count] = sealed(count, back, text(room), p)
				for first := 1; first <= count; first++ {
					for n := 1; n <= 4096; n += room {
						noLoad(t, api.ErrLoop, l, p, first, n)
						noLoad(t, api.ErrLoop, l, p, first, min(4096, n+room-1))
					}
					noLoad(t, api.ErrLoop, l, p, first, 4096)
				}
			}
		}
	}
	// A round of just as many pages as the longest value has, and of one less and one more.
	for _, p := range sizes {
		whole := chain.Pages(4096, p)
		for _, count := range []int{whole - 1, whole, whole + 1} {
			l := others(t, 1, p)
			for i := 1; i <= count; i++ {
				l = append(l, sealed(i, i%count+1, text(p-16), p))
			}
			for first := 1; first <= count; first++ {
				noLoad(t, api.ErrLoop, l, p, first, 4096)
			}
		}
	}
}

// P15.2: pages that lead out of the file, at each of them.
func TestLoadThatLeadsOut(t *testing.T) {
	for _, p := range sizes {
		room := p - 16
		value := text(4 * room)
		for i := range 4 {
			for _, next := range []int{7, 8, 255, 256, 4094, 4095} {
				l := others(t, 3, p)
				l = append(l, spills(t, value, 3, p)...)
				l[3+i] = sealed(3+i, next, value[i*room:(i+1)*room], p)
				if i < 3 {
					noLoad(t, api.ErrForm, l, p, 3, len(value))
				} else {
					noLoad(t, api.ErrLoop, l, p, 3, len(value))
				}
				noLoad(t, api.ErrLoop, l, p, 3, (i+1)*room)
			}
		}
	}
}

// P15.2, R2: of several things that are wrong a size or a length is told first, then what is wrong page by page, then the last one's Next, then how many bytes there are.
func TestLoadErrorsInOrder(t *testing.T) {
	for _, p := range sizes {
		room := p - 16
		value := text(3 * room)
		round := append(others(t, 1, p), sealed(1, 2, text(room), p), sealed(2, 1, text(room), p))
		on := others(t, 8, p)
		lay(on, value, p, 7, 2, 4, 6)
		for _, l := range [][]string{nil, others(t, 3, p), round, on} {
			for _, first := range slices.Concat(below, []int{0, 1, 2, 4, 9}, great) {
				for _, n := range slices.Concat(below, []int{0}, great) {
					noLoad(t, api.ErrArg, l, p, first, n)
					noLoad(t, api.ErrArg, l, 129, first, n)
				}
				noLoad(t, api.ErrArg, l, 0, first, 1)
				noLoad(t, api.ErrArg, l, p+1, first, len(value))
			}
		}
		// The last one leads on, and has too many bytes: that it leads on is told first.
		noLoad(t, api.ErrLoop, on, p, 2, len(value)-1)
		noLoad(t, api.ErrLoop, on, p, 2, 1)
		// A page is none, or ends too early, and the last one leads on, or there are not as many bytes: the page is told first.
		for _, at := range []int{2, 4, 6} {
			wrong := []string{"", on[1], sealed(5, 6, text(room), p)}
			if at != 6 {
				wrong = append(wrong, sealed(at, 0, text(room), p), sealed(at, 0, "x", p), sealed(at, 8, text(room), p))
			}
			for _, s := range wrong {
				here := slices.Clone(on)
				here[at] = s
				noLoad(t, api.ErrForm, here, p, 2, len(value))
				noLoad(t, api.ErrForm, here, p, 2, len(value)-1)
			}
		}
		// All leads on well, but for how many bytes there are.
		whole := slices.Clone(on)
		whole[6] = sealed(6, 0, value[2*room:], p)
		noLoad(t, api.ErrForm, whole, p, 2, len(value)-1)
		loads(t, whole, p, value, 2, 4, 6)
	}
}

// P15.2, P15.3: all files of four chain pages, which lead to any others, or to none, from each first one, for lengths around all whole numbers of pages.
func TestLoadOfAllSmallFiles(t *testing.T) {
	found := map[api.Errno]int{}
	for code := range 6 * 6 * 6 * 6 {
		l := others(t, 1, 128)
		for self := 1; self <= 4; self++ {
			// Next is 0, with a full page or one of a byte, or one of the others, or a place behind the file's end.
			next, data := []int{0, 0, 1, 2, 3, 4}[code%6], text(112)
			if code%6 == 1 {
				data = "x"
			}
			if next >= self {
				next++
			}
			l, code = append(l, sealed(self, next, data, 128)), code/6
		}
		for first := range 6 {
			for _, n := range []int{1, 2, 112, 113, 224, 225, 336, 337, 448, 449, 4096} {
				e := asModel(t, l, 128, first, n)
				if found[e]++; e == api.OK {
					_, numbers, _ := long.Load(l, 128, first, n)
					slices.Sort(numbers)
					if len(slices.Compact(numbers)) != chain.Pages(n, 128) {
						t.Fatalf("a page is told twice: %v", numbers)
					}
				}
			}
		}
	}
	if len(found) != 3 || found[api.OK] < 1000 || found[api.ErrForm] < 10000 || found[api.ErrLoop] < 10000 {
		t.Fatal(found)
	}
}

// P15.1, P15.3: values of chance, spilt and loaded, or not.
func TestSpillOfChance(t *testing.T) {
	source := rand.New(rand.NewSource(152))
	found := map[api.Errno]int{}
	for range 4000 {
		p, first := sizes[source.Intn(4)], 1+source.Intn(200)
		value := anyText(source, source.Intn(4200))
		switch source.Intn(8) {
		case 0:
			p = noSizes[source.Intn(len(noSizes))]
		case 1:
			first = 4096 - source.Intn(60)
		case 2:
			first = -source.Intn(5)
		}
		_, e := spillOf(value, first, p)
		if found[e]++; e != api.OK {
			noSpill(t, e, value, first, p)
			continue
		}
		l := append(make([]string, first), spills(t, value, first, p)...)
		loads(t, l, p, value, from(first, len(l)-first)...)
	}
	if found[api.OK] < 2000 || found[api.ErrArg] < 500 || found[api.ErrFull] < 50 || found[api.ErrForm] < 50 {
		t.Fatal(found)
	}
}

// spoilt makes something in a file another thing, by chance: a page, or some, or how many there are.
func spoilt(t *testing.T, source *rand.Rand, l []string, p int) []string {
	i, j := source.Intn(len(l)), source.Intn(len(l))
	switch source.Intn(8) {
	case 0:
		l[i], l[j] = l[j], l[i]
	case 1:
		l[i] = l[j]
	case 2:
		return l[:i]
	case 3:
		l[i] = sealed(i, j, text(p-16), p)
	case 4:
		l[i] = sealed(i, 0, text(1+source.Intn(p-16)), p)
	case 5:
		l[i] = sealed(i, j, text(112), 128)
	case 6:
		out := []byte(l[i])
		out[source.Intn(len(out))] ^= byte(1 << source.Intn(8))
		l[i] = string(out)
	case 7:
		l[i] = others(t, i+1, p)[i]
	}
	return l
}

// P15.2: files of chance, of which most are spoilt, held against the chapter's words.
func TestLoadOfChance(t *testing.T) {
	source := rand.New(rand.NewSource(153))
	found := map[api.Errno]int{}
	for range 6000 {
		p := sizes[source.Intn(4)]
		value := anyText(source, 1+source.Intn(6*(p-16)))
		if len(value) > 4096 {
			continue
		}
		l := others(t, 10, p)
		places := source.Perm(9)[:chain.Pages(len(value), p)]
		for i := range places {
			places[i]++
		}
		lay(l, value, p, 0, places...)
		first, n := places[0], len(value)
		switch source.Intn(8) {
		case 0:
			n += source.Intn(5) - 2
		case 1:
			n = 1 + source.Intn(4096)
		case 2:
			first = source.Intn(12) - 1
		case 3, 4, 5:
			l = spoilt(t, source, l, p)
		}
		found[asModel(t, l, p, first, n)]++
	}
	if found[api.OK] < 1000 || found[api.ErrForm] < 500 || found[api.ErrLoop] < 100 {
		t.Fatal(found)
	}
}

// R1: numbers from everywhere, each with each: no call panics.
func TestAnyNumbers(t *testing.T) {
	numbers := slices.Concat(below, []int{0, 1, 2, 3, 4, 5, 112, 128, 256, 1024, 4095, 4096}, great)
	l := append(others(t, 3, 128), spills(t, text(113), 3, 128)...)
	for _, a := range numbers {
		for _, b := range numbers {
			for _, c := range numbers {
				asModel(t, l, a, b, c)
			}
			if _, e := spillOf("x", a, b); e == api.OK {
				spills(t, "x", a, b)
			} else {
				noSpill(t, e, "x", a, b)
			}
		}
	}
}

// R4: what is told is new memory, texts and lists, and spare room too.
func TestAnswersAreNew(t *testing.T) {
	for _, p := range sizes {
		for _, n := range []int{1, p - 16, p - 15, 3*p + 5} {
			value := text(n)
			first, second := spills(t, value, 2, p), spills(t, value, 2, p)
			l := append(others(t, 2, p), first...)
			count := len(first)
			a, numbersA, _ := long.Load(l, p, 2, n)
			b, numbersB, _ := long.Load(l, p, 2, n)
			apart(t, slices.Concat([]string{value, a, b}, first, second))
			clear(numbersA[:cap(numbersA)])
			clear(first[:cap(first)])
			want, _ := spillOf(value, 2, p)
			if !slices.Equal(numbersB, from(2, count)) || !slices.Equal(second, want) {
				t.Fatal("an answer changed with another one")
			}
			loads(t, l, p, value, from(2, count)...)
			spills(t, value, 2, p)
		}
	}
}

// apart looks whether no two texts share memory.
func apart(t *testing.T, texts []string) {
	t.Helper()
	for i, a := range texts {
		for _, b := range texts[:i] {
			one, two := uintptr(unsafe.Pointer(unsafe.StringData(a))), uintptr(unsafe.Pointer(unsafe.StringData(b)))
			if one < two+uintptr(len(b)) && two < one+uintptr(len(a)) {
				t.Fatalf("%.100q and %.100q share memory", a, b)
			}
		}
	}
}

// R4: what was handed in stays as it was, the room behind a list too, and what is told doesn't change with it afterwards.
func TestArgumentsStay(t *testing.T) {
	for _, p := range sizes {
		for _, n := range []int{1, p - 16, 3*p + 5} {
			raw := []byte(text(n))
			l, e := long.Spill(unsafe.String(&raw[0], n), 2, p)
			if string(raw) != text(n) || e != api.OK {
				t.Fatal("a value is another thing now")
			}
			clear(raw)
			want, _ := spillOf(text(n), 2, p)
			if !slices.Equal(l, want) {
				t.Fatal("pages changed with the value")
			}
			count := len(l)
			file := append(make([]string, 0, 64), others(t, 2, p)...)
			bytes := [][]byte{}
			for _, s := range l {
				bytes = append(bytes, []byte(s))
				file = append(file, unsafe.String(&bytes[len(bytes)-1][0], p))
			}
			room := file[len(file):cap(file)]
			for i := range room {
				room[i] = "behind"
			}
			was := slices.Clone(file[:cap(file)])
			value, numbers, e := long.Load(file, p, 2, n)
			if !slices.Equal(file[:cap(file)], was) || e != api.OK {
				t.Fatal("a file is another thing now")
			}
			noLoad(t, api.ErrForm, file[:len(file)-1], p, 2, n)
			if !slices.Equal(file[:cap(file)], was) {
				t.Fatal("a file is another thing now")
			}
			for i := range bytes {
				clear(bytes[i])
			}
			clear(file[:cap(file)])
			if value != text(n) || !slices.Equal(numbers, from(2, count)) {
				t.Fatal("a value changed with its pages")
			}
		}
	}
}

// R5: the same call tells the same again, whatever was called between.
func TestAnswersStay(t *testing.T) {
	source := rand.New(rand.NewSource(154))
	l := append(others(t, 3, 256), spills(t, text(1000), 3, 256)...)
	value, numbers, _ := long.Load(l, 256, 3, 1000)
	for range 300 {
		long.Spill(anyText(source, source.Intn(5000)), source.Intn(5000), 256)
		long.Load(l, 256, source.Intn(9), source.Intn(1200))
		long.Load(spoilt(t, source, slices.Clone(l), 256), 256, 3, 1000)
		loads(t, l, 256, text(1000), 3, 4, 5, 6, 7)
	}
	if value != text(1000) || !slices.Equal(numbers, from(3, 5)) {
		t.Fatal("what was told is another thing now")
	}
	spills(t, text(1000), 3, 256)
}
