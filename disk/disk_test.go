package disk

import (
	"math"
	"math/rand"
	"slices"
	"strings"
	"testing"
	"unsafe"

	"withy/api"
)

// written answers a page's bytes, none of them 0; those of two numbers differ at every place.
func written(size, n int) string {
	out := make([]byte, size)
	for i := range out {
		out[i] = byte(1 + (n+i)%255)
	}
	return string(out)
}

// none answers a page's bytes that were never written.
func none(size int) string { return strings.Repeat("\x00", size) }

// torn answers a page's first bytes of one text, and the others of another.
func torn(fresh, old string, at int) string { return fresh[:at] + old[at:] }

// newDisk answers a disk that may be made.
func newDisk(t *testing.T, p, room int) *Disk {
	t.Helper()
	d, e := New(p, room)
	if e != api.OK || d == nil {
		t.Fatalf("New(%d, %d): %v, %d", p, room, d, e)
	}
	return d
}

// mustWrite writes a page that can be written.
func mustWrite(t *testing.T, d *Disk, i int, s string) {
	t.Helper()
	if e := d.Write(i, s); e != api.OK {
		t.Fatalf("Write(%d): %d", i, e)
	}
}

// mustSync syncs a disk that hasn't stopped.
func mustSync(t *testing.T, d *Disk) {
	t.Helper()
	if e := d.Sync(); e != api.OK {
		t.Fatalf("Sync: %d", e)
	}
}

// holds looks whether a disk has just these pages, told by Len, by All, and by Read; and that reads are counted, but nothing else is.
func holds(t *testing.T, d *Disk, want ...string) {
	t.Helper()
	reads := d.Reads()
	if d.Len() != len(want) {
		t.Fatalf("Len is %d, not %d", d.Len(), len(want))
	}
	if l := d.All(); !slices.Equal(l, want) {
		t.Fatalf("All is %.20q, not %.20q", l, want)
	}
	for i, s := range want {
		if got, e := d.Read(i); got != s || e != api.OK {
			t.Fatalf("Read(%d) is %.20q, %d, not %.20q", i, got, e, s)
		}
	}
	if got, e := d.Read(len(want)); got != "" || e != api.ErrArg {
		t.Fatalf("Read(%d), at Len, is %.20q, %d", len(want), got, e)
	}
	if d.Reads() != reads+len(want)+1 {
		t.Fatalf("Reads is %d, not %d", d.Reads(), reads+len(want)+1)
	}
}

// The chapter's example, at all four sizes.
func TestExample(t *testing.T) {
	for _, p := range []int{128, 256, 512, 1024} {
		d := newDisk(t, p, 9)
		a, b := strings.Repeat("a", p), strings.Repeat("b", p)
		mustWrite(t, d, 0, a)
		mustSync(t, d)
		mustWrite(t, d, 0, b)
		holds(t, d, b)
		d.Crash([]Choice{{Torn, 3}})
		holds(t, d, "bbb"+strings.Repeat("a", p-3))
	}
}

// The kinds have the numbers that the chapter's list gives them.
func TestKinds(t *testing.T) {
	if Lost != 0 || Whole != 1 || Torn != 2 {
		t.Fatal(Lost, Whole, Torn)
	}
}

// P6.1: four sizes may be, and no others.
func TestSize(t *testing.T) {
	may := []int{128, 256, 512, 1024}
	for p := -2100; p <= 5000; p++ {
		if Size(p) != slices.Contains(may, p) {
			t.Errorf("Size(%d) is %t", p, Size(p))
		}
	}
	for _, p := range []int{math.MinInt, math.MinInt + 128, math.MaxInt, 1 << 32, 1<<32 + 128, 1<<63 - 128, -1 << 32} {
		if Size(p) {
			t.Errorf("Size(%d) is true", p)
		}
	}
}

// P6.1: New of sizes and rooms at their ends, beyond, and between.
func TestNew(t *testing.T) {
	for _, p := range []int{math.MinInt, -128, -1, 0, 1, 64, 127, 128, 129, 255, 256, 257, 384, 511, 512, 513, 1023, 1024, 1025, 2048, math.MaxInt} {
		for _, room := range []int{math.MinInt, -4096, -1, 0, 1, 2, 100, 4095, 4096, 4097, 1 << 20, math.MaxInt} {
			d, e := New(p, room)
			if !Size(p) || room < 1 || room > 4096 {
				if d != nil || e != api.ErrArg {
					t.Errorf("New(%d, %d): %v, %d", p, room, d, e)
				}
				d, e = From(p, room, "a")
				if d != nil || e != api.ErrArg {
					t.Errorf("From(%d, %d): %v, %d", p, room, d, e)
				}
				continue
			}
			if e != api.OK || d == nil || d.Page() != p || d.Room() != room || d.Len() != 0 || d.Reads() != 0 || len(d.All()) != 0 {
				t.Fatalf("New(%d, %d): %v, %d", p, room, d, e)
			}
			holds(t, d)
			d.Crash([]Choice{{Whole, 0}})
			holds(t, d)
		}
	}
}

// P6.1: bytes that From cuts into pages: of none, of a part of one, of just so many, of one more, of as many as there is room for.
func TestFrom(t *testing.T) {
	for _, p := range []int{128, 256, 512, 1024} {
		const room = 70
		whole := ""
		for i := range room {
			whole += written(p, 7*i)
		}
		for _, n := range []int{0, 1, 2, p - 1, p, p + 1, 2*p - 1, 2 * p, 2*p + 1, 63 * p, 64*p - 1, 64 * p, 64*p + 1, 65 * p, room*p - 1, room * p} {
			d, e := From(p, room, whole[:n])
			if e != api.OK || d == nil || d.Page() != p || d.Room() != room || d.Reads() != 0 {
				t.Fatalf("From of %d bytes: %v, %d", n, d, e)
			}
			count := (n + p - 1) / p
			all := whole[:n] + none(count*p-n)
			var want []string
			for i := range count {
				want = append(want, all[i*p:(i+1)*p])
			}
			holds(t, d, want...)
			// Nothing is pending: a crash takes nothing, whatever the choices are.
			d.Crash(nil)
			holds(t, d, want...)
			d.Crash([]Choice{{Torn, 1}, {Whole, 0}})
			holds(t, d, want...)
		}
	}
}

// P6.1: bytes for which there is no room, by one and by more; the arguments come first.
func TestFromWrong(t *testing.T) {
	for _, x := range []struct {
		p, room, n int
		want       api.Errno
	}{
		{128, 1, 128, api.OK}, {128, 1, 129, api.ErrFull}, {128, 1, 256, api.ErrFull}, {128, 2, 257, api.ErrFull}, {128, 2, 256, api.OK},
		{1024, 3, 3072, api.OK}, {1024, 3, 3073, api.ErrFull}, {1024, 3, 30720, api.ErrFull}, {512, 4, 2049, api.ErrFull}, {256, 4, 1025, api.ErrFull}, {256, 4, 1024, api.OK},
		{128, 4096, 4096 * 128, api.OK}, {128, 4096, 4096*128 + 1, api.ErrFull}, {1024, 4096, 4096 * 1024, api.OK}, {1024, 4096, 4096*1024 + 1, api.ErrFull},
		{127, 1, 0, api.ErrArg}, {127, 1, 1000, api.ErrArg}, {0, 1, 1, api.ErrArg}, {128, 0, 0, api.ErrArg}, {128, 0, 1, api.ErrArg}, {128, -1, 1, api.ErrArg}, {128, 4097, 0, api.ErrArg}, {128, 4097, 4097*128 + 1, api.ErrArg}, {-128, -1, 128, api.ErrArg},
	} {
		d, e := From(x.p, x.room, strings.Repeat("a", x.n))
		if e != x.want || (d != nil) != (e == api.OK) {
			t.Errorf("From(%d, %d) of %d bytes: %v, %d", x.p, x.room, x.n, d != nil, e)
		}
		if e == api.OK && d.Len() != (x.n+x.p-1)/x.p {
			t.Errorf("From(%d, %d) of %d bytes: Len is %d", x.p, x.room, x.n, d.Len())
		}
	}
}

// P6.2: pages below 0, at Len and above; those that were never written; those that are pending, or synced; each call is counted, also one that fails.
func TestRead(t *testing.T) {
	d := newDisk(t, 128, 10)
	for n, i := range []int{0, -1, 1, math.MinInt, math.MaxInt, 9, 10, 4096} {
		if s, e := d.Read(i); s != "" || e != api.ErrArg || d.Reads() != n+1 {
			t.Fatalf("Read(%d) without pages: %q, %d, %d reads", i, s, e, d.Reads())
		}
	}
	a, b, c := written(128, 1), written(128, 2), written(128, 3)
	mustWrite(t, d, 3, a)
	holds(t, d, none(128), none(128), none(128), a)
	mustWrite(t, d, 1, b)
	holds(t, d, none(128), b, none(128), a)
	mustSync(t, d)
	holds(t, d, none(128), b, none(128), a)
	mustWrite(t, d, 3, c)
	holds(t, d, none(128), b, none(128), c)
	reads := d.Reads()
	for n, i := range []int{-1, 4, 5, math.MinInt, math.MaxInt, 9, 10, 0, 0, 3} {
		s, e := d.Read(i)
		if wrong := i < 0 || i > 3; wrong && (s != "" || e != api.ErrArg) || !wrong && e != api.OK || d.Reads() != reads+n+1 {
			t.Fatalf("Read(%d): %.20q, %d, %d reads", i, s, e, d.Reads())
		}
	}
}

// P6.2: no other call counts as one of Read.
func TestReadsOthers(t *testing.T) {
	d, _ := From(128, 4, "abc")
	for _, call := range []func(){
		func() { d.All() }, func() { d.Len() }, func() { d.Page() }, func() { d.Room() }, func() { d.Reads() },
		func() { d.Write(1, written(128, 1)) }, func() { d.Write(-1, "") }, func() { d.Sync() }, func() { d.Crash(nil) },
		func() { d.Write(2, written(128, 1)) }, func() { d.Crash([]Choice{{Torn, 5}}) }, func() { d.Limit(0) }, func() { d.Write(1, "") },
	} {
		call()
		if d.Reads() != 0 {
			t.Fatal("a call that is none of Read was counted")
		}
	}
	d.Read(0)
	d.Read(-1)
	d.Crash(nil)
	d.Sync()
	if d.Reads() != 2 {
		t.Fatalf("%d reads, not 2", d.Reads())
	}
}

// P6.3: what may be written, and where; Len behind each.
func TestWrite(t *testing.T) {
	for _, p := range []int{128, 256, 512, 1024} {
		d := newDisk(t, p, 5)
		good := written(p, 9)
		for _, x := range []struct {
			i    int
			s    string
			want api.Errno
			size int
		}{
			{-1, good, api.ErrArg, 0}, {math.MinInt, good, api.ErrArg, 0}, {0, "", api.ErrArg, 0}, {0, good[1:], api.ErrArg, 0}, {0, good + "a", api.ErrArg, 0}, {0, good + good, api.ErrArg, 0}, {0, "a", api.ErrArg, 0},
			{5, good, api.ErrFull, 0}, {6, good, api.ErrFull, 0}, {4096, good, api.ErrFull, 0}, {math.MaxInt, good, api.ErrFull, 0},
			{5, "", api.ErrArg, 0}, {5, good[1:], api.ErrArg, 0}, {6, good + "a", api.ErrArg, 0}, {math.MaxInt, "a", api.ErrArg, 0}, {-1, "a", api.ErrArg, 0},
			{0, good, api.OK, 1}, {0, good, api.OK, 1}, {1, good, api.OK, 2}, {3, good, api.OK, 4}, {2, good, api.OK, 4}, {0, good, api.OK, 4},
			{-1, good, api.ErrArg, 4}, {4, good[1:], api.ErrArg, 4}, {5, good, api.ErrFull, 4}, {4, good, api.OK, 5}, {5, good, api.ErrFull, 5}, {4, good, api.OK, 5}, {1, good + "a", api.ErrArg, 5},
		} {
			before := d.All()
			e := d.Write(x.i, x.s)
			if e != x.want || d.Len() != x.size {
				t.Fatalf("Write(%d) of %d bytes: %d, and Len is %d", x.i, len(x.s), e, d.Len())
			}
			if e != api.OK && !slices.Equal(d.All(), before) {
				t.Fatalf("Write(%d) of %d bytes changed something", x.i, len(x.s))
			}
		}
		holds(t, d, good, good, good, good, good)
	}
}

// P6.3: a page that is far above all others, at the greatest room.
func TestWriteFar(t *testing.T) {
	d := newDisk(t, 128, 4096)
	a, b := written(128, 1), written(128, 2)
	mustWrite(t, d, 4095, a)
	mustWrite(t, d, 64, b)
	if d.Len() != 4096 {
		t.Fatalf("Len is %d", d.Len())
	}
	for i, s := range d.All() {
		want := none(128)
		switch i {
		case 64:
			want = b
		case 4095:
			want = a
		}
		if got, e := d.Read(i); s != want || got != want || e != api.OK {
			t.Fatalf("page %d is %.20q, and read %.20q, %d", i, s, got, e)
		}
	}
	if e := d.Write(4096, a); e != api.ErrFull {
		t.Fatalf("Write at the room: %d", e)
	}
	d.Crash([]Choice{{Lost, 0}, {Whole, 0}})
	if d.Len() != 65 {
		t.Fatalf("Len behind the crash is %d", d.Len())
	}
}

// P6.3: all pages of the greatest disk, upwards, downwards, and once more.
func TestWriteAll(t *testing.T) {
	up, down := newDisk(t, 128, 4096), newDisk(t, 128, 4096)
	want := make([]string, 4096)
	for i := range want {
		want[i] = written(128, i)
		mustWrite(t, up, i, want[i])
		mustWrite(t, down, 4095-i, written(128, 4095-i))
	}
	if !slices.Equal(up.All(), want) || !slices.Equal(down.All(), want) {
		t.Fatal("other pages than were written")
	}
	mustSync(t, up)
	for i := range want {
		mustWrite(t, up, i, written(128, i+1))
	}
	up.Crash(nil)
	if !slices.Equal(up.All(), want) {
		t.Fatal("other pages than were synced")
	}
}

// P6.3: what has stopped tells ErrDead first, whatever the arguments are; else ErrArg comes ahead of ErrFull.
func TestWriteErrorsInOrder(t *testing.T) {
	d := newDisk(t, 128, 2)
	good := written(128, 1)
	if e := d.Write(2, good[1:]); e != api.ErrArg {
		t.Fatalf("too few bytes above the room: %d", e)
	}
	d.Limit(0)
	for _, x := range []struct {
		i int
		s string
	}{{0, good}, {-1, good}, {0, "a"}, {2, good}, {2, "a"}, {math.MaxInt, good}} {
		if e := d.Write(x.i, x.s); e != api.ErrDead {
			t.Fatalf("Write(%d) of %d bytes, stopped: %d", x.i, len(x.s), e)
		}
	}
	if e := d.Sync(); e != api.ErrDead {
		t.Fatalf("Sync, stopped: %d", e)
	}
	holds(t, d)
}

// P6.3: with pending writes, and without, Sync keeps all; a Sync that fails keeps nothing.
func TestSync(t *testing.T) {
	d := newDisk(t, 128, 4)
	a, b, c := written(128, 1), written(128, 2), written(128, 3)
	mustSync(t, d)
	holds(t, d)
	mustWrite(t, d, 0, a)
	mustWrite(t, d, 2, b)
	mustSync(t, d)
	holds(t, d, a, none(128), b)
	d.Crash(nil)
	holds(t, d, a, none(128), b)
	mustSync(t, d)
	mustSync(t, d)
	d.Crash([]Choice{{Torn, 0}, {Lost, 0}})
	holds(t, d, a, none(128), b)
	mustWrite(t, d, 0, c)
	mustWrite(t, d, 3, c)
	d.Limit(0)
	if e := d.Sync(); e != api.ErrDead {
		t.Fatalf("Sync, stopped: %d", e)
	}
	holds(t, d, c, none(128), b, c)
	d.Crash(nil)
	holds(t, d, a, none(128), b)
}

// P6.4: it has stopped at once, behind one call, or behind many, be they of Write or of Sync.
func TestLimit(t *testing.T) {
	s := written(128, 1)
	for _, n := range []int{math.MinInt, -1, 0, 1, 2, 3, 10, 1000} {
		d := newDisk(t, 128, 3)
		d.Limit(n)
		for i := range max(n, 0) {
			if i%3 == 2 {
				mustSync(t, d)
			} else {
				mustWrite(t, d, i%2, s)
			}
		}
		for range 3 {
			if e, f := d.Write(0, s), d.Sync(); e != api.ErrDead || f != api.ErrDead {
				t.Fatalf("behind %d calls: %d, %d", n, e, f)
			}
		}
	}
	d := newDisk(t, 128, 3)
	d.Limit(math.MaxInt)
	for range 1000 {
		mustWrite(t, d, 1, s)
		mustSync(t, d)
	}
}

// P6.4: at first there is no limit.
func TestLimitAtFirst(t *testing.T) {
	d := newDisk(t, 128, 3)
	for i := range 5000 {
		mustWrite(t, d, i%3, written(128, i))
		mustSync(t, d)
	}
}

// P6.4: what fails, what reads, and what was done ahead of the call isn't counted.
func TestLimitCountsOnlyWhatIsDone(t *testing.T) {
	s := written(128, 1)
	d := newDisk(t, 128, 3)
	mustWrite(t, d, 0, s)
	mustWrite(t, d, 1, s)
	mustSync(t, d)
	d.Limit(2)
	for range 5 {
		if e := d.Write(-1, s); e != api.ErrArg {
			t.Fatalf("below 0: %d", e)
		}
		if e := d.Write(0, "a"); e != api.ErrArg {
			t.Fatalf("too few bytes: %d", e)
		}
		if e := d.Write(3, s); e != api.ErrFull {
			t.Fatalf("at the room: %d", e)
		}
		d.Read(0)
		d.Read(-1)
		d.All()
		d.Len()
		d.Reads()
	}
	mustWrite(t, d, 2, s)
	d.Write(3, s)
	mustSync(t, d)
	if e := d.Write(3, s); e != api.ErrDead {
		t.Fatalf("stopped, and at the room: %d", e)
	}
}

// P6.4: reads go on when it has stopped; a later limit lets it go on, stops it again, and counts anew.
func TestLimitLater(t *testing.T) {
	a, b := written(128, 1), written(128, 2)
	d := newDisk(t, 128, 3)
	mustWrite(t, d, 0, a)
	d.Limit(0)
	if e := d.Write(0, b); e != api.ErrDead {
		t.Fatalf("stopped: %d", e)
	}
	holds(t, d, a)
	d.Limit(1)
	mustWrite(t, d, 0, b)
	if e := d.Sync(); e != api.ErrDead {
		t.Fatalf("stopped once more: %d", e)
	}
	holds(t, d, b)
	d.Limit(3)
	mustWrite(t, d, 1, a)
	d.Limit(2)
	mustWrite(t, d, 2, a)
	mustSync(t, d)
	if e := d.Sync(); e != api.ErrDead {
		t.Fatalf("a later limit didn't count anew: %d", e)
	}
	d.Limit(5)
	d.Limit(-1)
	if e := d.Write(0, a); e != api.ErrDead {
		t.Fatalf("a later limit below 0: %d", e)
	}
	holds(t, d, b, a, a)
}

// P6.5: a crash with nothing pending takes nothing, but the limit.
func TestCrashNothingPending(t *testing.T) {
	a := written(128, 1)
	d := newDisk(t, 128, 3)
	d.Crash(nil)
	holds(t, d)
	mustWrite(t, d, 1, a)
	mustSync(t, d)
	d.Limit(0)
	for _, l := range [][]Choice{nil, {}, {{Whole, 0}}, {{Torn, 3}, {Lost, 0}, {Torn, 200}}} {
		d.Crash(l)
		holds(t, d, none(128), a)
	}
	mustSync(t, d)
	mustWrite(t, d, 0, a)
}

// P6.5: one pending write, by each kind of choice, and torn at each place, over a page that was synced, and over one that wasn't held.
func TestCrashKinds(t *testing.T) {
	for _, p := range []int{128, 1024} {
		old, fresh := written(p, 1), written(p, 2)
		places := []int{math.MinInt, -p, -1, p + 1, 2 * p, math.MaxInt}
		for at := range p + 1 {
			places = append(places, at)
		}
		for _, at := range places {
			cut := min(max(at, 0), p)
			for _, x := range []struct {
				kind          int
				onOld, onNone []string
			}{
				{Lost, []string{old}, nil},
				{Whole, []string{fresh}, []string{fresh}},
				{Torn, []string{torn(fresh, old, cut)}, []string{torn(fresh, none(p), cut)}},
				{-1, []string{old}, nil}, {3, []string{old}, nil}, {4, []string{old}, nil}, {math.MinInt, []string{old}, nil}, {math.MaxInt, []string{old}, nil}, {257, []string{old}, nil},
			} {
				d, _ := From(p, 3, old)
				mustWrite(t, d, 0, fresh)
				d.Crash([]Choice{{x.kind, at}})
				if !slices.Equal(d.All(), x.onOld) {
					t.Fatalf("over a page, kind %d at %d: %.20q", x.kind, at, d.All())
				}
				d = newDisk(t, p, 3)
				mustWrite(t, d, 0, fresh)
				d.Crash([]Choice{{x.kind, at}})
				if !slices.Equal(d.All(), x.onNone) || d.Len() != len(x.onNone) {
					t.Fatalf("over nothing, kind %d at %d: %.20q, Len %d", x.kind, at, d.All(), d.Len())
				}
			}
		}
	}
}

// P6.5: over a page that is held, and was never written, a torn write has bytes 0 behind.
func TestCrashTornOverNeverWritten(t *testing.T) {
	a, b := written(128, 1), written(128, 2)
	d := newDisk(t, 128, 5)
	mustWrite(t, d, 2, a)
	mustSync(t, d)
	mustWrite(t, d, 1, b)
	mustWrite(t, d, 4, b)
	d.Crash([]Choice{{Torn, 5}, {Torn, 0}})
	holds(t, d, none(128), torn(b, none(128), 5), a, none(128), none(128))
}

// P6.5: fewer choices than writes, as many, and more: those without one are lost.
func TestCrashChoices(t *testing.T) {
	whole := Choice{Whole, 0}
	a, b, c := written(128, 1), written(128, 2), written(128, 3)
	for _, x := range []struct {
		l    []Choice
		want []string
	}{
		{nil, []string{none(128)}},
		{[]Choice{}, []string{none(128)}},
		{[]Choice{whole}, []string{a}},
		{[]Choice{whole, whole}, []string{a, b}},
		{[]Choice{whole, whole, whole}, []string{a, b, c}},
		{[]Choice{whole, whole, whole, whole, {Torn, 1}, {Lost, 0}}, []string{a, b, c}},
		{[]Choice{{}, whole}, []string{none(128), b}},
		{[]Choice{{}, {}, whole}, []string{none(128), none(128), c}},
		{[]Choice{{}, {}, {Torn, -7}}, []string{none(128), none(128), none(128)}},
		{[]Choice{{}, {9, 9}, {}, whole}, []string{none(128)}},
		{[]Choice{whole, {}, {Torn, 127}}, []string{a, none(128), torn(c, none(128), 127)}},
	} {
		d, _ := From(128, 3, none(128))
		mustWrite(t, d, 0, a)
		mustWrite(t, d, 1, b)
		mustWrite(t, d, 2, c)
		was := slices.Clone(x.l)
		d.Crash(x.l)
		holds(t, d, x.want...)
		if !slices.Equal(x.l, was) {
			t.Fatalf("the choices %v were changed", was)
		}
		// Nothing is pending any more.
		d.Crash([]Choice{whole, whole, whole})
		holds(t, d, x.want...)
	}
}

// P6.5: two writes of one page: what the second one is torn over is what the first one left.
func TestCrashTwoOfOnePage(t *testing.T) {
	old, a, b := written(128, 1), written(128, 2), written(128, 3)
	lost, whole := Choice{Lost, 0}, Choice{Whole, 0}
	for _, x := range []struct {
		first, second Choice
		want          string
	}{
		{lost, lost, old}, {lost, whole, b}, {whole, lost, a}, {whole, whole, b},
		{lost, Choice{Torn, 40}, torn(b, old, 40)}, {whole, Choice{Torn, 40}, torn(b, a, 40)},
		{Choice{Torn, 40}, lost, torn(a, old, 40)}, {Choice{Torn, 40}, whole, b},
		{Choice{Torn, 80}, Choice{Torn, 40}, torn(b, torn(a, old, 80), 40)}, {Choice{Torn, 40}, Choice{Torn, 80}, torn(b, old, 80)},
		{Choice{Torn, 40}, Choice{Torn, 0}, torn(a, old, 40)}, {Choice{Torn, -1}, Choice{Torn, 129}, b}, {Choice{7, 40}, Choice{Torn, 1}, torn(b, old, 1)},
	} {
		d, _ := From(128, 3, old)
		mustWrite(t, d, 0, a)
		mustWrite(t, d, 0, b)
		holds(t, d, b)
		d.Crash([]Choice{x.first, x.second})
		holds(t, d, x.want)
	}
	// A write that was lost is none, ahead of one that makes the page.
	d := newDisk(t, 128, 3)
	mustWrite(t, d, 1, a)
	mustWrite(t, d, 1, b)
	d.Crash([]Choice{lost, {Torn, 9}})
	holds(t, d, none(128), torn(b, none(128), 9))
}

// P6.5: Len is by what was synced, and by the writes that are whole or torn.
func TestCrashLen(t *testing.T) {
	a := written(128, 1)
	for _, x := range []struct {
		l    []Choice
		want int
	}{
		{nil, 2}, {[]Choice{{Whole, 0}}, 6}, {[]Choice{{Torn, 0}}, 6}, {[]Choice{{Lost, 0}, {Whole, 0}}, 4}, {[]Choice{{Lost, 0}, {Torn, -1}}, 4}, {[]Choice{{3, 0}, {Torn, 128}}, 4},
		{[]Choice{{Lost, 0}, {Lost, 0}, {Whole, 0}}, 2}, {[]Choice{{Whole, 0}, {Whole, 0}, {Whole, 0}}, 6},
	} {
		d, _ := From(128, 9, a+a)
		mustWrite(t, d, 5, a)
		mustWrite(t, d, 3, a)
		mustWrite(t, d, 0, a)
		if d.Len() != 6 {
			t.Fatalf("Len ahead of the crash is %d", d.Len())
		}
		d.Crash(x.l)
		if d.Len() != x.want || len(d.All()) != x.want {
			t.Fatalf("%v: Len is %d, not %d", x.l, d.Len(), x.want)
		}
		if s, e := d.Read(x.want); s != "" || e != api.ErrArg {
			t.Fatalf("%v: Read at Len: %.20q, %d", x.l, s, e)
		}
		// The next page that is above makes again those that were lost, with bytes 0.
		mustWrite(t, d, 8, a)
		if s, e := d.Read(7); s != none(128) || e != api.OK || d.Len() != 9 {
			t.Fatalf("%v: Read of a page that was never written: %.20q, %d", x.l, s, e)
		}
	}
}

// P6.5: pages that were lost have bytes 0, when they are held once more.
func TestCrashLostPagesAreNone(t *testing.T) {
	d := newDisk(t, 128, 9)
	a := written(128, 1)
	for i := range 8 {
		mustWrite(t, d, i, a)
	}
	d.Crash(nil)
	mustWrite(t, d, 8, a)
	for i := range 8 {
		if s, e := d.Read(i); s != none(128) || e != api.OK {
			t.Fatalf("page %d: %.20q, %d", i, s, e)
		}
	}
}

// P6.5: the limit is gone behind a crash, used up or not.
func TestCrashEndsLimit(t *testing.T) {
	a := written(128, 1)
	for _, n := range []int{-1, 0, 1, 2, 3} {
		d := newDisk(t, 128, 3)
		d.Limit(n)
		d.Write(0, a)
		d.Crash([]Choice{{Whole, 0}})
		for range 20 {
			mustWrite(t, d, 1, a)
			mustSync(t, d)
		}
		// A limit that comes later holds again.
		d.Limit(1)
		mustSync(t, d)
		if e := d.Sync(); e != api.ErrDead {
			t.Fatalf("a later limit: %d", e)
		}
	}
}

// P6.5: what is left behind a crash is as if it had been synced.
func TestCrashLeavesNothingPending(t *testing.T) {
	a, b, c := written(128, 1), written(128, 2), written(128, 3)
	d := newDisk(t, 128, 3)
	mustWrite(t, d, 0, a)
	mustWrite(t, d, 1, b)
	d.Crash([]Choice{{Whole, 0}, {Torn, 10}})
	d.Crash(nil)
	holds(t, d, a, torn(b, none(128), 10))
	mustWrite(t, d, 1, c)
	// The first choice is the first write's since the crash.
	d.Crash([]Choice{{Torn, 5}})
	holds(t, d, a, torn(c, torn(b, none(128), 10), 5))
}

// P6.6: a crash with all writes whole leaves what is read; with none, what was synced.
func TestCrashAllOrNone(t *testing.T) {
	source := rand.New(rand.NewSource(66))
	for range 300 {
		d := newDisk(t, 128, 80)
		var l []Choice
		var synced []string
		for range source.Intn(200) {
			if source.Intn(20) == 0 {
				mustSync(t, d)
				l, synced = nil, d.All()
				continue
			}
			mustWrite(t, d, source.Intn(80), written(128, source.Intn(255)))
			l = append(l, Choice{Whole, source.Intn(128)})
		}
		read := d.All()
		other := *d
		d.Crash(l)
		other.Crash(nil)
		if !slices.Equal(d.All(), read) {
			t.Fatal("all writes were whole, but pages are other ones")
		}
		if !slices.Equal(other.All(), synced) {
			t.Fatal("what was synced didn't stay")
		}
	}
}

// P6.6: what was synced stays, but at pages of which a later write is whole, or torn.
func TestCrashSyncedStays(t *testing.T) {
	source := rand.New(rand.NewSource(67))
	for range 300 {
		d, _ := From(128, 80, strings.Repeat(written(128, 0), 70))
		synced := d.All()
		touched := map[int]bool{}
		var l []Choice
		for range source.Intn(40) {
			i := source.Intn(80)
			c := Choice{source.Intn(5) - 1, source.Intn(300) - 100}
			mustWrite(t, d, i, written(128, 1+source.Intn(250)))
			l = append(l, c)
			touched[i] = touched[i] || c.Kind == Whole || c.Kind == Torn
		}
		d.Crash(l)
		for i, s := range d.All() {
			want := none(128)
			if i < len(synced) {
				want = synced[i]
			}
			if !touched[i] && s != want {
				t.Fatalf("page %d didn't stay", i)
			}
		}
	}
}

// R4: what All tells stays as it was, whatever is done afterwards; nor does it lead back into the disk, or into another answer.
func TestAllStays(t *testing.T) {
	a, b := written(128, 1), written(128, 2)
	d := newDisk(t, 128, 200)
	for i := range 100 {
		mustWrite(t, d, i, a)
	}
	mustSync(t, d)
	one, two := d.All(), d.All()
	was := slices.Clone(one)
	spare := one[:cap(one)]
	for i := range spare {
		spare[i] = "changed"
	}
	one = append(one, "more")
	if !slices.Equal(two, was) || !slices.Equal(d.All(), was) {
		t.Fatal("an answer of All shares memory")
	}
	for i := range 150 {
		mustWrite(t, d, i, b)
		if !slices.Equal(two, was) {
			t.Fatalf("an answer of All changed with page %d", i)
		}
	}
	d.Crash([]Choice{{Torn, 3}})
	if !slices.Equal(two, was) {
		t.Fatal("an answer of All changed by a crash")
	}
	if len(newDisk(t, 128, 1).All()) != 0 {
		t.Fatal("All of no pages")
	}
}

// R4: the choices, and the room behind them, stay as they were, and what becomes of them later does nothing.
func TestChoicesStay(t *testing.T) {
	a := written(128, 1)
	room := []Choice{{Whole, 1}, {Torn, 2}, {Whole, 3}, {Torn, 4}}
	was := slices.Clone(room)
	d := newDisk(t, 128, 5)
	for i := range 4 {
		mustWrite(t, d, i, a)
	}
	d.Crash(room[:2])
	if !slices.Equal(room, was) {
		t.Fatalf("the choices are %v", room)
	}
	room[0], room[1] = Choice{}, Choice{}
	holds(t, d, a, torn(a, none(128), 2))
}

// R4: bytes that are handed in aren't kept, and those that are answered are new.
func TestBytesAreNew(t *testing.T) {
	place := func(s string) *byte { return unsafe.StringData(s) }
	s := written(128, 1)
	from, _ := From(128, 3, s)
	wrote := newDisk(t, 128, 3)
	mustWrite(t, wrote, 0, s)
	whole := newDisk(t, 128, 3)
	mustWrite(t, whole, 0, s)
	whole.Crash([]Choice{{Whole, 0}})
	for _, d := range []*Disk{from, wrote, whole} {
		kept := d.now.page(0)
		if place(kept) == place(s) {
			t.Fatal("what was handed in is kept")
		}
		one, _ := d.Read(0)
		two, _ := d.Read(0)
		seen := []*byte{place(s), place(kept), place(one), place(two), place(d.All()[0]), place(d.All()[0])}
		for i, x := range seen {
			if slices.Contains(seen[:i], x) {
				t.Fatal("what is answered shares memory")
			}
		}
	}
}

// R7: a copy tells what its original tells, and each goes its own way from then on, the copy first or the original first.
func TestCopies(t *testing.T) {
	old, a, b := written(128, 1), written(128, 2), written(128, 3)
	for _, x := range []bool{true, false} {
		d, _ := From(128, 9, old+old)
		mustWrite(t, d, 1, a)
		d.Read(0)
		d.Limit(3)
		other := *d
		one, two := d, &other
		if x {
			one, two = two, one
		}
		if one.Page() != 128 || one.Room() != 9 || one.Reads() != 1 {
			t.Fatal("a copy tells something else")
		}
		holds(t, one, old, a)
		if two.Reads() != 1 {
			t.Fatal("reads of a copy count")
		}
		// Both write the page that is next, and one that is held.
		mustWrite(t, one, 2, a)
		mustWrite(t, two, 2, b)
		mustWrite(t, one, 0, b)
		holds(t, one, b, a, a)
		holds(t, two, old, a, b)
		mustSync(t, one)
		if e := one.Sync(); e != api.ErrDead {
			t.Fatalf("the limit of one: %d", e)
		}
		mustWrite(t, two, 3, b)
		mustSync(t, two)
		if e := two.Sync(); e != api.ErrDead {
			t.Fatalf("the limit of the other: %d", e)
		}
		one.Crash(nil)
		holds(t, one, b, a, a)
		holds(t, two, old, a, b, b)
		mustSync(t, one)
		if e := two.Sync(); e != api.ErrDead {
			t.Fatalf("a crash of one ended the other's limit: %d", e)
		}
	}
}

// R7: what is pending in a copy is that of the original at that moment, and both lose by their own choices.
func TestCopiesPending(t *testing.T) {
	old, a, b, c := written(128, 1), written(128, 2), written(128, 3), written(128, 4)
	d, _ := From(128, 9, old)
	mustWrite(t, d, 0, a)
	one, two, three := *d, *d, *d
	mustWrite(t, &one, 1, b)
	mustWrite(t, &two, 1, c)
	mustSync(t, &three)
	mustWrite(t, &three, 1, b)
	whole := []Choice{{Whole, 0}, {Whole, 0}}
	one.Crash(whole)
	two.Crash([]Choice{{Torn, 7}, {Torn, 8}})
	three.Crash(nil)
	holds(t, &one, a, b)
	holds(t, &two, torn(a, old, 7), torn(c, none(128), 8))
	holds(t, &three, a)
	holds(t, d, a)
	d.Crash(nil)
	holds(t, d, old)
	// A disk may be set to what it was.
	*d = two
	holds(t, d, torn(a, old, 7), torn(c, none(128), 8))
}
