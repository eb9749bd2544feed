package disk

import (
	"math/rand"
	"slices"
	"testing"

	"withy/api"
)

// model follows the chapter's words, with nothing shared: a disk is what was synced, and what is pending.
type model struct {
	page, room, reads int
	synced            []string
	pending           []note
	limited           bool
	limit, done       int
}

// note is a write that the model remembers.
type note struct {
	at   int
	text string
}

// copied answers a model of its own.
func (m model) copied() model {
	m.synced, m.pending = slices.Clone(m.synced), slices.Clone(m.pending)
	return m
}

// laid answers pages of which one is another text.
func (m model) laid(l []string, i int, text string) []string {
	l = slices.Clone(l)
	for len(l) <= i {
		l = append(l, none(m.page))
	}
	l[i] = text
	return l
}

// all answers what is read.
func (m model) all() []string {
	l := m.synced
	for _, w := range m.pending {
		l = m.laid(l, w.at, w.text)
	}
	return l
}

func (m model) dead() bool { return m.limited && m.done >= m.limit }

func (m *model) write(i int, s string) api.Errno {
	if m.dead() {
		return api.ErrDead
	}
	if i < 0 || len(s) != m.page {
		return api.ErrArg
	}
	if i >= m.room {
		return api.ErrFull
	}
	m.pending = append(m.pending, note{i, s})
	m.done++
	return api.OK
}

func (m *model) sync() api.Errno {
	if m.dead() {
		return api.ErrDead
	}
	m.synced, m.pending = m.all(), nil
	m.done++
	return api.OK
}

func (m *model) crash(l []Choice) {
	for i, w := range m.pending {
		if i >= len(l) {
			break
		}
		old := none(m.page)
		if w.at < len(m.synced) {
			old = m.synced[w.at]
		}
		switch {
		case l[i].Kind == Whole || l[i].Kind == Torn && l[i].At >= m.page:
			m.synced = m.laid(m.synced, w.at, w.text)
		case l[i].Kind == Torn && l[i].At <= 0:
			m.synced = m.laid(m.synced, w.at, old)
		case l[i].Kind == Torn:
			m.synced = m.laid(m.synced, w.at, w.text[:l[i].At]+old[l[i].At:])
		}
	}
	m.pending, m.limited = nil, false
}

// pair is a disk, and what it ought to be.
type pair struct {
	d *Disk
	m model
}

// agree looks whether a disk tells what its model tells.
func (x *pair) agree(t *testing.T) {
	t.Helper()
	all := x.m.all()
	if x.d.Page() != x.m.page || x.d.Room() != x.m.room || x.d.Reads() != x.m.reads || x.d.Len() != len(all) || !slices.Equal(x.d.All(), all) {
		t.Fatalf("%d pages, %d reads; %d pages and %d reads ought to be", x.d.Len(), x.d.Reads(), len(all), x.m.reads)
	}
}

// step does one thing, of chance, to both.
func (x *pair) step(t *testing.T, source *rand.Rand) {
	t.Helper()
	switch n := source.Intn(20); {
	case n < 9:
		i, s := source.Intn(x.m.room+2)-1, written(x.m.page, source.Intn(255))
		if source.Intn(15) == 0 {
			s = s[source.Intn(2):] + s[:source.Intn(2)]
		}
		if e, want := x.d.Write(i, s), x.m.write(i, s); e != want {
			t.Fatalf("Write(%d) of %d bytes: %d, not %d", i, len(s), e, want)
		}
	case n < 11:
		if e, want := x.d.Sync(), x.m.sync(); e != want {
			t.Fatalf("Sync: %d, not %d", e, want)
		}
	case n < 12:
		limit := source.Intn(25) - 2
		x.d.Limit(limit)
		x.m.limited, x.m.limit, x.m.done = true, limit, 0
	case n < 14:
		l := make([]Choice, source.Intn(2+len(x.m.pending)))
		for i := range l {
			l[i] = Choice{source.Intn(6) - 2, source.Intn(x.m.page+40) - 20}
		}
		x.d.Crash(l)
		x.m.crash(l)
	default:
		all, i := x.m.all(), source.Intn(x.m.room+3)-2
		s, e := x.d.Read(i)
		x.m.reads++
		if held := i >= 0 && i < len(all); held && (e != api.OK || s != all[i]) || !held && (e != api.ErrArg || s != "") {
			t.Fatalf("Read(%d) of %d pages: %.20q, %d", i, len(all), s, e)
		}
	}
}

// P6.1 to P6.6, R2, R7: lives of chance, of disks and of their copies, held against the chapter's words behind each step.
func TestLives(t *testing.T) {
	for seed := range 80 {
		source := rand.New(rand.NewSource(int64(seed)))
		p, room := []int{128, 256, 512, 1024}[seed%4], []int{1, 3, 6, 70, 200}[seed%5]
		first := &pair{newDisk(t, p, room), model{page: p, room: room}}
		if seed%3 == 0 {
			s := written(p, seed) + written(p, seed+1)[:5]
			d, e := From(p, room, s)
			if room == 1 {
				if d != nil || e != api.ErrFull {
					t.Fatalf("From of %d bytes and one page: %d", len(s), e)
				}
			} else {
				first = &pair{d, model{page: p, room: room, synced: []string{s[:p], s[p:] + none(p-5)}}}
			}
		}
		lives := []*pair{first}
		for range 200 {
			x := lives[source.Intn(len(lives))]
			if len(lives) < 4 && source.Intn(30) == 0 {
				other := *x.d
				lives = append(lives, &pair{&other, x.m.copied()})
			}
			x.step(t, source)
			for _, each := range lives {
				each.agree(t)
			}
		}
	}
}
