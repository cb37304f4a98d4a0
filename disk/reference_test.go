package disk

import (
	"fmt"
	"math"
	"math/rand"
	"slices"
	"strings"
	"testing"

	"election/api"
)

// extremes are numbers whose sums, products and shifts overflow.
var extremes = []int{math.MinInt, math.MinInt + 1, -1 << 62, -1 << 32, 1 << 32, 1 << 62, math.MaxInt - 1, math.MaxInt}

// event is a Write that succeeded, or a Sync that did, if the sector is -1.
type event struct {
	sector   int
	contents string
}

// model is the reference of a disk: it keeps all events, and searches them for each answer.
type model struct {
	sectors int
	events  []event
	limit   int // how many more calls the fuse permits from the time on that it was given, or -1
	calls   int // those made since then
	dead    bool
}

func newModel(sectors int) *model { return &model{sectors: sectors, limit: -1} }

// padded returns the contents of a sector to which b was written.
func padded(b string) string { return (b + strings.Repeat("\x00", api.Sector))[:api.Sector] }

// contents returns those of a sector after the events.
func contents(events []event, sector int) string {
	for _, e := range slices.Backward(events) {
		if e.sector == sector {
			return e.contents
		}
	}
	return padded("")
}

// synced returns the number of the events until the last Sync.
func (m *model) synced() int {
	for k, e := range slices.Backward(m.events) {
		if e.sector == -1 {
			return k + 1
		}
	}
	return 0
}

// dirty returns the dirty sectors.
func (m *model) dirty() []int {
	var list []int
	for i := range m.sectors {
		if slices.ContainsFunc(m.events[m.synced():], func(e event) bool { return e.sector == i }) {
			list = append(list, i)
		}
	}
	return list
}

func (m *model) read(i int) (string, api.Errno) {
	if m.dead {
		return "", api.ErrDown
	}
	if i < 0 || i > m.sectors-1 {
		return "", api.ErrRange
	}
	return contents(m.events, i), api.OK
}

func (m *model) write(i int, b string) api.Errno {
	if _, err := m.read(i); err != api.OK {
		return err
	}
	if len(b) > 64 {
		return api.ErrLength
	}
	return m.add(event{i, padded(b)})
}

func (m *model) sync() api.Errno {
	if m.dead {
		return api.ErrDown
	}
	return m.add(event{sector: -1})
}

// add adds an event, unless the fuse does not permit it.
func (m *model) add(e event) api.Errno {
	m.calls++
	if m.limit >= 0 && m.calls > m.limit {
		m.dead = true
		return api.ErrDown
	}
	m.events = append(m.events, e)
	return api.OK
}

func (m *model) setFuse(n int) { m.limit, m.calls = max(n, -1), 0 }

// crash writes what survives to a new disk.
func (m *model) crash(keep []bool) *model {
	c := newModel(m.sectors)
	old, dirty := m.events[:m.synced()], m.dirty()
	for i := range m.sectors {
		events := m.events
		if k := slices.Index(dirty, i); k >= 0 && (k > len(keep)-1 || !keep[k]) {
			events = old
		}
		c.events = append(c.events, event{i, contents(events, i)})
	}
	c.events = append(c.events, event{sector: -1})
	return c
}

// pair is a disk and its reference, with a text of what was done to them.
type pair struct {
	t     *testing.T
	d     *Disk
	m     *model
	steps []string
}

func newPair(t *testing.T, sectors int) *pair {
	t.Helper()
	p := &pair{t: t, d: New(sectors), m: newModel(sectors)}
	if p.d == nil {
		t.Fatalf("there is no disk with %d sectors", sectors)
	}
	return p
}

func (p *pair) fail(format string, values ...any) {
	p.t.Helper()
	p.t.Fatalf("a disk with %d sectors, after %s: %s", p.m.sectors, strings.Join(p.steps, ", "), fmt.Sprintf(format, values...))
}

func (p *pair) write(i int, b string) {
	p.t.Helper()
	p.steps = append(p.steps, fmt.Sprintf("Write(%d, %s)", i, preview(b)))
	if got, want := p.d.Write(i, []byte(b)), p.m.write(i, b); got != want {
		p.fail("error %d, want %d", got, want)
	}
}

func (p *pair) sync() {
	p.t.Helper()
	p.steps = append(p.steps, "Sync")
	if got, want := p.d.Sync(), p.m.sync(); got != want {
		p.fail("error %d, want %d", got, want)
	}
}

func (p *pair) setFuse(n int) {
	p.steps = append(p.steps, fmt.Sprintf("Fuse(%d)", n))
	p.d.Fuse(n)
	p.m.setFuse(n)
}

// crash returns the pair of the disks after a loss of power.
func (p *pair) crash(keep ...bool) *pair {
	p.t.Helper()
	c := &pair{t: p.t, d: p.d.Crash(keep), m: p.m.crash(keep)}
	c.steps = append(slices.Clone(p.steps), fmt.Sprintf("Crash(%v)", keep))
	if c.d == nil || c.d == p.d {
		c.fail("Crash returned %p of %p", c.d, p.d)
	}
	return c
}

// check compares all that can be seen of a disk without a change.
func (p *pair) check() {
	p.t.Helper()
	if p.d.Sectors() != p.m.sectors || p.d.Dirty() != len(p.m.dirty()) || p.d.Dead() != p.m.dead {
		p.fail("%d sectors, %d dirty, dead %v; want %d dirty, dead %v", p.d.Sectors(), p.d.Dirty(), p.d.Dead(), len(p.m.dirty()), p.m.dead)
	}
	for i := -1; i <= p.m.sectors; i++ {
		p.checkRead(i)
	}
}

func (p *pair) checkRead(i int) {
	p.t.Helper()
	got, err := p.d.Read(i)
	want, wantErr := p.m.read(i)
	if err != wantErr || string(got) != want {
		p.fail("Read(%d) is %s and error %d, want %s and %d", i, preview(string(got)), err, preview(want), wantErr)
	}
}

// checkCrashes compares the disk and all disks that it may become, of which those of a dead disk show its contents.
func (p *pair) checkCrashes() {
	p.t.Helper()
	p.check()
	dirty := len(p.m.dirty())
	for set := range 1 << dirty {
		keep := make([]bool, dirty)
		for k := range keep {
			keep[k] = set>>k&1 == 1
		}
		p.crash(keep...).check()
	}
}

func preview(b string) string {
	if b = strings.TrimRight(b, "\x00"); len(b) > 10 {
		return fmt.Sprintf("%q and more, %d in all", b[:10], len(b))
	}
	return fmt.Sprintf("%q", b)
}

func noise(r *rand.Rand, n int) string {
	b := make([]byte, n)
	r.Read(b)
	return string(b)
}
