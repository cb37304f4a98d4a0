package disk

import (
	"math/rand"
	"slices"
	"testing"

	"election/api"
)

// TestExample is the example of the chapter.
func TestExample(t *testing.T) {
	d := New(4)
	d.Write(3, []byte("a"))
	d.Sync()
	d.Write(3, []byte("b"))
	d.Write(1, []byte("c"))
	c := d.Crash([]bool{true})
	checkContents(t, c, 1, padded("c"))
	checkContents(t, c, 3, padded("a"))
	checkContents(t, c, 0, padded(""))
	checkContents(t, d, 1, padded("c"))
	checkContents(t, d, 3, padded("b"))
}

// TestKeep has all sets of dirty sectors, written in ascending and in descending order, and all lists that are shorter, as long, or longer.
func TestKeep(t *testing.T) {
	const sectors = 4
	for set := range 1 << sectors {
		for _, reverse := range []bool{false, true} {
			p := newPair(t, sectors)
			for i := range sectors {
				p.write(i, "old")
			}
			p.sync()
			for i := range sectors {
				if reverse {
					i = sectors - 1 - i
				}
				if set>>i&1 == 1 {
					p.write(i, "middle")
					p.write(i, "new")
				}
			}
			for length := range sectors + 3 {
				for bits := range 1 << length {
					keep := make([]bool, length)
					for k := range keep {
						keep[k] = bits>>k&1 == 1
					}
					p.crash(keep...).check()
				}
			}
			p.check()
		}
	}
}

// TestKeepNothing has nil and empty lists, and ones without a true element.
func TestKeepNothing(t *testing.T) {
	d := New(3)
	d.Write(0, []byte("a"))
	d.Sync()
	d.Write(0, []byte("b"))
	d.Write(2, []byte("c"))
	for _, keep := range [][]bool{nil, {}, make([]bool, 0, 5), {false}, make([]bool, 2), make([]bool, 100)} {
		c := d.Crash(keep)
		checkContents(t, c, 0, padded("a"))
		checkContents(t, c, 2, padded(""))
	}
}

// TestCrashIsNew checks that the new disk has no fuse and nothing dirty, of a disk that is alive, one with a fuse, and a dead one.
func TestCrashIsNew(t *testing.T) {
	for _, length := range []int{-1, 0, 1, 2, 3} {
		p := newPair(t, 3)
		p.write(0, "a")
		p.sync()
		p.write(0, "b")
		p.write(1, "c")
		p.setFuse(length)
		for range 3 {
			for _, keep := range [][]bool{nil, {true}, {false, true}, {true, true, true}} {
				c := p.crash(keep...)
				if c.d.Dirty() != 0 || c.d.Dead() {
					c.fail("%d are dirty, dead %v", c.d.Dirty(), c.d.Dead())
				}
				for range 10 {
					c.write(2, "d")
					c.sync()
				}
				c.check()
			}
			p.check()
			p.write(2, "e")
		}
		p.checkCrashes()
	}
}

// TestCrashesApart changes a disk and those that it became in turn.
func TestCrashesApart(t *testing.T) {
	p := newPair(t, 3)
	p.write(1, "a")
	p.sync()
	p.write(1, "b")
	p.write(2, "c")
	all := []*pair{p}
	for _, keep := range [][]bool{nil, {true}, {false, true}, {true, true}} {
		all = append(all, p.crash(keep...))
	}
	for round := range 3 {
		for k, q := range all {
			q.write((k+round)%3, string(rune('k'+k)))
			if (k+round)%2 == 0 {
				q.sync()
			}
			q.write(round, string(rune('A'+k)))
			for _, other := range all {
				other.checkCrashes()
			}
		}
	}
	all[1].setFuse(0)
	all[1].sync()
	for _, q := range all {
		q.checkCrashes()
	}
}

// TestCrashAgain has crashes of disks that crashes returned.
func TestCrashAgain(t *testing.T) {
	r := rand.New(rand.NewSource(2))
	for range 50 {
		p := newPair(t, 6)
		for range 20 {
			for range r.Intn(4) {
				p.write(r.Intn(6), noise(r, r.Intn(65)))
			}
			if r.Intn(3) == 0 {
				p.sync()
			}
			p.checkCrashes()
			keep := make([]bool, r.Intn(6))
			for k := range keep {
				keep[k] = r.Intn(2) == 1
			}
			p = p.crash(keep...)
			p.check()
			p.crash(true, true).check()
		}
	}
}

// TestCrashDoesNotChange compares the disk with one that did not crash.
func TestCrashDoesNotChange(t *testing.T) {
	keep := []bool{true, false, true}
	d, undisturbed := New(5), New(5)
	for _, disk := range []*Disk{d, undisturbed} {
		disk.Write(4, []byte("a"))
		disk.Write(2, []byte("b"))
		disk.Sync()
		disk.Write(2, []byte("c"))
		disk.Write(0, []byte("d"))
		disk.Fuse(3)
	}
	for range 4 {
		d.Crash(keep)
		if d.Dirty() != undisturbed.Dirty() || d.Dead() != undisturbed.Dead() {
			t.Errorf("%d are dirty, want %d; dead %v", d.Dirty(), undisturbed.Dirty(), d.Dead())
		}
		for _, keep := range [][]bool{nil, {true}, {false, true}, {true, true, true}} {
			a, b := d.Crash(keep), undisturbed.Crash(keep)
			for i := range 5 {
				want, _ := b.Read(i)
				checkContents(t, a, i, string(want))
			}
		}
		if got, want := d.Write(1, []byte("e")), undisturbed.Write(1, []byte("e")); got != want {
			t.Errorf("error %d, want %d", got, want)
		}
	}
	if !slices.Equal(keep, []bool{true, false, true}) || !d.Dead() || d.Sync() != api.ErrDown {
		t.Error("the fuse is another")
	}
}
