package journal

import (
	"fmt"
	"math/rand"
	"strings"
	"testing"

	"election/api"
)

// family is a number of entries of which parts of different ones could make another.
type family []string

func families() map[string]family {
	tail, zeros := strings.Repeat("t", 199), strings.Repeat("\x00", 200)
	return map[string]family{
		"the same ends":       {"a" + tail, "b" + tail, "c" + tail, "d" + tail},
		"the same beginnings": {tail[:60] + strings.Repeat("a", 140), tail[:60] + strings.Repeat("b", 140), tail + "c", tail[:130] + strings.Repeat("d", 70)},
		"equal entries":       {"a" + tail, "a" + tail, "a" + tail, "a" + tail},
		"zero bytes":          {zeros, zeros[:199] + "z", "z" + zeros[:199], zeros},
		"different lengths":   {tail[:1], tail[:61] + zeros[:1], tail[:100] + zeros[:100], tail[:62]},
		"shifted":             {tail[:64] + strings.Repeat("u", 64) + strings.Repeat("v", 72), strings.Repeat("u", 64) + tail[:64] + strings.Repeat("v", 72), strings.Repeat("v", 200), strings.Repeat("u", 200)},
	}
}

// interrupted calls an operation with each fuse until one is long enough, and continues with each disk that a crash may leave.
func interrupted(l *ledger, operation func(l *ledger) bool, next func(l *ledger)) {
	for fuse := 0; ; fuse++ {
		c := l.crash()
		if !c.open() && !c.blank {
			c.fail("there is no journal")
		}
		c.fuse(fuse)
		done := operation(c)
		for _, keep := range choices(c.d.Dirty()) {
			next(c.restart(keep...))
		}
		if done {
			if c.d.Dirty() != 0 {
				c.fail("%d sectors are dirty", c.d.Dirty())
			}
			return
		}
		if fuse > 100 {
			c.fail("no fuse is long enough")
		}
	}
}

// visits has the contents of disks with which a test has continued already, after a number of calls.
type visits map[string]bool

// before says whether the test has continued with such a disk before.
func (v visits) before(l *ledger, calls int) bool {
	key := fmt.Sprint(calls, " ", contents(l.d))
	was := v[key]
	v[key] = true
	return was
}

// finish appends entries until the journal is full, and checks that they stay.
func finish(l *ledger) {
	l.fuse(-1)
	for l.j.Room() > 0 {
		if !l.append("end") {
			l.fail("Append failed")
		}
		l.restart()
	}
}

// TestCrashes has all ways in which four Appends one after another can be interrupted.
func TestCrashes(t *testing.T) {
	for name, f := range families() {
		t.Run(name, func(t *testing.T) {
			t.Parallel()
			var from func(l *ledger, k int)
			seen := visits{}
			from = func(l *ledger, k int) {
				if seen.before(l, k) {
					return
				}
				if k == len(f) || l.j.Room() == 0 {
					finish(l)
					return
				}
				interrupted(l, func(l *ledger) bool { return l.append(f[k]) }, func(l *ledger) { from(l, k+1) })
			}
			for sectors := 8; sectors <= 16; sectors += 4 {
				from(formatted(t, sectors), 0)
			}
			l := formatted(t, 20)
			l.append(f[3])
			from(l, 1)
		})
	}
}

// TestCrashesOfAll has all ways in which three calls, each an Append or a Format, can be interrupted.
func TestCrashesOfAll(t *testing.T) {
	for name, f := range families() {
		t.Run(name, func(t *testing.T) {
			t.Parallel()
			var from func(l *ledger, k int)
			seen := visits{}
			from = func(l *ledger, k int) {
				if seen.before(l, k) {
					return
				}
				if k == 3 {
					finish(l)
					return
				}
				next := func(l *ledger) { from(l, k+1) }
				if l.j.Room() > 0 {
					interrupted(l, func(l *ledger) bool { return l.append(f[k]) }, next)
				}
				interrupted(l, (*ledger).format, next)
			}
			l := formatted(t, 16)
			from(l, 0)
			l.append(f[3])
			l.append(f[0])
			from(l, 0)
			l.append(f[2])
			from(l, 0)
		})
	}
}

// TestFirstFormat has all ways in which the Format of a disk without a journal can be interrupted, after which there is none or an empty one.
func TestFirstFormat(t *testing.T) {
	for _, sectors := range []int{8, 9, 15, 40} {
		found := map[bool]bool{}
		interrupted(newLedger(t, sectors), (*ledger).format, func(l *ledger) {
			found[l.j != nil] = true
			l.fuse(-1)
			if l.j == nil {
				l.format()
				l.open()
			}
			if l.j.Len() != 0 {
				l.fail("the first journal has entries")
			}
			finish(l)
		})
		if !found[true] || !found[false] {
			t.Errorf("%d sectors: found %v", sectors, found)
		}
	}
}

// TestManyCrashes has interrupted Appends of the same and of other entries, many of them for each entry.
func TestManyCrashes(t *testing.T) {
	r := rand.New(rand.NewSource(4))
	for range 300 {
		l := formatted(t, 8+r.Intn(20))
		parts := []string{noise(r, 64), noise(r, 64), strings.Repeat("\x00", 64)}
		for l.j.Room() > 0 {
			var b strings.Builder
			for range 4 {
				b.WriteString(parts[r.Intn(len(parts))])
			}
			start := r.Intn(50)
			l.fuse(r.Intn(12) - 1)
			l.append(b.String()[start : start+1+r.Intn(200)])
			l = l.restart(randomChoice(r)...)
		}
	}
}

func randomChoice(r *rand.Rand) []bool {
	keep := make([]bool, r.Intn(6))
	for k := range keep {
		keep[k] = r.Intn(2) == 1
	}
	return keep
}

// TestOpenDies opens a journal on a disk that dies at once if it is written to. The journal stays what it was.
func TestOpenDies(t *testing.T) {
	for fuse := range 8 {
		for _, keep := range choices(3) {
			l := formatted(t, 16)
			l.append("a")
			l.fuse(fuse)
			l.append(strings.Repeat("b", 200))
			found := l.restart(keep...)
			for second := range 8 {
				c := found.crash()
				c.fuse(second)
				c.open()
				for _, keep := range choices(c.d.Dirty()) {
					c.restart(keep...)
				}
			}
		}
	}
}

// TestDeadJournal has a journal whose disk died, in an Append and before one.
func TestDeadJournal(t *testing.T) {
	l := formatted(t, 24)
	l.append("a")
	l.append("b")
	for fuse := range 6 {
		c := l.crash()
		c.open()
		c.fuse(fuse)
		if c.append(strings.Repeat("c", 200)) {
			continue
		}
		before := c.d.Dirty()
		for range 3 {
			if c.append("d") || c.open() || c.format() {
				c.fail("a dead disk is written to")
			}
			c.checkObject()
		}
		if c.d.Dirty() != before {
			c.fail("%d dirty sectors, before %d", c.d.Dirty(), before)
		}
		c.restart()
	}
	l.fuse(0)
	l.d.Sync()
	if err := l.j.Append([]byte("c")); err != api.ErrDown {
		l.fail("error %d", err)
	}
	l.checkObject()
}

// TestSequences has random calls.
func TestSequences(t *testing.T) {
	r := rand.New(rand.NewSource(5))
	for range 300 {
		l := formatted(t, 8+r.Intn(30))
		for range 60 {
			l = l.random(r)
		}
	}
}

// random makes a random call, of which most are Appends. A journal that a Format has replaced is not used any more.
func (l *ledger) random(r *rand.Rand) *ledger {
	switch r.Intn(12) {
	case 0:
		l.fuse(r.Intn(40) - 1)
	case 1:
		if l.format() {
			l.open()
		}
	case 2, 3:
		l.open()
	case 4, 5, 6:
		return l.restart(randomChoice(r)...)
	default:
		l.append(noise(r, 1+r.Intn(200)))
	}
	if l.j == nil {
		return l.restart()
	}
	return l
}
