package journal

import (
	"fmt"
	"math/rand"
	"slices"
	"strings"
	"testing"

	"election/api"
	"election/disk"
)

// ledger is the reference of a journal: the entries that it has, and the journals that may be on its disk.
type ledger struct {
	t     *testing.T
	d     *disk.Disk
	j     *Journal   // nil before the first Format
	held  []string   // the entries of j
	maybe [][]string // the journals that may be on the disk: more than one only if it died
	blank bool       // the disk may still be without a journal
	steps []string
}

func newLedger(t *testing.T, sectors int) *ledger {
	t.Helper()
	l := &ledger{t: t, d: disk.New(sectors), blank: true}
	if l.d == nil {
		t.Fatalf("there is no disk with %d sectors", sectors)
	}
	return l
}

// formatted returns a ledger with an empty journal that is open.
func formatted(t *testing.T, sectors int) *ledger {
	t.Helper()
	l := newLedger(t, sectors)
	l.format()
	l.open()
	return l
}

// room returns the capacity of a disk: each whole group of four sectors counts, but the first one.
func room(sectors int) int {
	count := 0
	for first := 4; first+4 <= sectors; first += 4 {
		count++
	}
	return count
}

func (l *ledger) fail(format string, values ...any) {
	l.t.Helper()
	l.t.Fatalf("a disk with %d sectors, after %s: %s", l.d.Sectors(), strings.Join(l.steps, ", "), fmt.Sprintf(format, values...))
}

func (l *ledger) step(format string, values ...any) {
	l.steps = append(slices.Clip(l.steps), fmt.Sprintf(format, values...))
}

// format formats the disk and says whether that succeeded.
func (l *ledger) format() bool {
	l.t.Helper()
	l.step("Format")
	wasDead := l.d.Dead()
	err := Format(l.d)
	l.checkError(err, wasDead)
	switch {
	case err == api.OK:
		l.j, l.held, l.maybe, l.blank = nil, nil, [][]string{nil}, false
	case !wasDead:
		l.maybe = append(slices.Clip(l.maybe), nil)
	}
	return err == api.OK
}

// append appends an entry of a permitted length, and says whether that succeeded.
func (l *ledger) append(b string) bool {
	l.t.Helper()
	l.step("Append(%s)", preview(b))
	wasDead := l.d.Dead()
	err := l.j.Append([]byte(b))
	if !wasDead && len(l.held) == room(l.d.Sectors()) {
		if err != api.ErrFull || l.d.Dead() {
			l.fail("error %d of a full journal, dead %v", err, l.d.Dead())
		}
		l.checkObject()
		return false
	}
	l.checkError(err, wasDead)
	longer := append(slices.Clip(l.held), b)
	switch {
	case err == api.OK:
		l.held, l.maybe = longer, [][]string{longer}
	case !wasDead:
		l.maybe = append(slices.Clip(l.maybe), longer)
	}
	l.checkObject()
	return err == api.OK
}

// checkError checks that a call failed if the disk was dead or died in it, and only then.
func (l *ledger) checkError(err api.Errno, wasDead bool) {
	l.t.Helper()
	want := api.OK
	if l.d.Dead() {
		want = api.ErrDown
	}
	if err != want || wasDead && !l.d.Dead() {
		l.fail("error %d, want %d", err, want)
	}
}

// checkObject compares the journal object with the entries that it must have.
func (l *ledger) checkObject() {
	l.t.Helper()
	if got := entries(l.j); !slices.Equal(got, l.held) || l.j.Len() != len(l.held) || l.j.Room() != room(l.d.Sectors())-len(l.held) {
		l.fail("%s, length %d, room %d, want %s", previews(got), l.j.Len(), l.j.Room(), previews(l.held))
	}
}

// open opens the journal of the disk, which from then on has what was found. It says whether there is a journal.
func (l *ledger) open() bool {
	l.t.Helper()
	l.step("Open")
	wasDead := l.d.Dead()
	j, err := Open(l.d)
	if err != api.OK && j != nil {
		l.fail("a journal beside the error %d", err)
	}
	if err == api.ErrForm && l.blank && !wasDead {
		l.maybe = nil
		return false
	}
	l.checkError(err, wasDead)
	if err != api.OK {
		return false
	}
	got := entries(j)
	if !slices.ContainsFunc(l.maybe, func(m []string) bool { return slices.Equal(m, got) }) {
		l.fail("the journal is %s, want one of %d like %s", previews(got), len(l.maybe), previews(l.maybe[0]))
	}
	l.j, l.held, l.maybe, l.blank = j, got, [][]string{got}, false
	l.checkObject()
	return true
}

// crash returns a ledger of the disk after a loss of power. Its journal is that of the old disk until it is opened.
func (l *ledger) crash(keep ...bool) *ledger {
	l.t.Helper()
	c := *l
	c.step("Crash(%v)", keep)
	c.d = l.d.Crash(keep)
	return &c
}

// restart returns a ledger of the disk after a loss of power, with what is then found on it, twice.
func (l *ledger) restart(keep ...bool) *ledger {
	l.t.Helper()
	c := l.crash(keep...)
	if !c.open() {
		return c
	}
	c.open()
	again := c.crash()
	again.open()
	again = again.crash(keep...)
	again.open()
	return c
}

func (l *ledger) fuse(n int) {
	l.step("Fuse(%d)", n)
	l.d.Fuse(n)
}

// choices returns all lists for Crash of this many dirty sectors.
func choices(dirty int) [][]bool {
	lists := make([][]bool, 1<<dirty)
	for set := range lists {
		for k := range dirty {
			lists[set] = append(lists[set], set>>k&1 == 1)
		}
	}
	return lists
}

// entries returns the entries of a journal as strings.
func entries(j *Journal) []string {
	var list []string
	for _, b := range j.All() {
		list = append(list, string(b))
	}
	return list
}

func preview(b string) string {
	if len(b) > 6 {
		return fmt.Sprintf("%q and more, %d in all", b[:6], len(b))
	}
	return fmt.Sprintf("%q", b)
}

func previews(list []string) string {
	var parts []string
	for _, b := range list {
		parts = append(parts, preview(b))
	}
	return "{" + strings.Join(parts, "; ") + "}"
}

func noise(r *rand.Rand, n int) string {
	b := make([]byte, n)
	r.Read(b)
	return string(b)
}
