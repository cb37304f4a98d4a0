package disk

import (
	"slices"
	"strings"
	"testing"

	"election/api"
)

const tooLong = "01234567890123456789012345678901234567890123456789012345678901234" // 65 bytes

// TestFuseLengths burns fuses down by all sequences of Writes and Syncs.
func TestFuseLengths(t *testing.T) {
	for length := range 7 {
		for calls := range 1 << 8 {
			p := newPair(t, 3)
			p.write(0, "before")
			p.setFuse(length)
			for k := range 8 {
				if calls>>k&1 == 1 {
					p.sync()
				} else {
					p.write(k%3, strings.Repeat("x", k))
				}
				if dead := k >= length; p.d.Dead() != dead {
					p.fail("dead is %v", !dead)
				}
				p.check()
			}
			p.checkCrashes()
		}
	}
}

// TestFuseOfErrors has calls that do not shorten the fuse.
func TestFuseOfErrors(t *testing.T) {
	for length := range 3 {
		p := newPair(t, 2)
		p.setFuse(length)
		for range length + 1 {
			for range 5 {
				p.write(2, "x")
				p.write(-1, tooLong)
				p.write(0, tooLong)
				p.checkCrashes()
			}
			if p.d.Dead() {
				p.fail("it is dead")
			}
			p.write(1, "w")
		}
		if !p.d.Dead() {
			p.fail("it is not dead")
		}
		p.checkCrashes()
	}
}

// TestErrorsInOrder has calls to which several errors apply.
func TestErrorsInOrder(t *testing.T) {
	d := New(2)
	d.Fuse(0)
	for _, c := range []struct {
		sector int
		b      string
		want   api.Errno
	}{{2, tooLong, api.ErrRange}, {-1, tooLong, api.ErrRange}, {2, "", api.ErrRange}, {1, tooLong, api.ErrLength}} {
		if got := d.Write(c.sector, []byte(c.b)); got != c.want || d.Dead() {
			t.Errorf("Write(%d, %s): error %d, want %d; dead %v", c.sector, preview(c.b), got, c.want, d.Dead())
		}
	}
	if _, err := d.Read(2); err != api.ErrRange || d.Dead() {
		t.Error("Read of no sector")
	}
	if b, err := d.Read(1); err != api.OK || len(b) != 64 || d.Dead() {
		t.Error("Read shortens the fuse")
	}
	if d.Write(1, []byte("x")) != api.ErrDown || !d.Dead() {
		t.Error("a Write after the fuse has burnt down")
	}
	for _, sector := range slices.Concat(extremes, []int{-1, 0, 1, 2}) {
		for _, b := range []string{"", "x", tooLong} {
			if got := d.Write(sector, []byte(b)); got != api.ErrDown {
				t.Errorf("Write(%d, %s) of a dead disk: error %d", sector, preview(b), got)
			}
		}
		if b, err := d.Read(sector); b != nil || err != api.ErrDown {
			t.Errorf("Read(%d) of a dead disk: error %d", sector, err)
		}
	}
	if d.Sync() != api.ErrDown {
		t.Error("Sync of a dead disk")
	}
}

// TestFuseHasNoOtherUsers has calls that burn nothing.
func TestFuseHasNoOtherUsers(t *testing.T) {
	p := newPair(t, 2)
	p.write(1, "a")
	p.setFuse(1)
	for range 5 {
		p.checkCrashes()
	}
	p.sync()
	for range 5 {
		p.checkCrashes()
	}
	if p.d.Dead() {
		p.fail("it is dead")
	}
	p.sync()
	if !p.d.Dead() {
		p.fail("it is not dead")
	}
}

// TestFuseAnew gives a disk another fuse, whether the earlier one is burnt down or not, or removes it.
func TestFuseAnew(t *testing.T) {
	lengths := slices.Concat(extremes, []int{-2, -1, 0, 1, 2, 3})
	for _, first := range lengths {
		for _, second := range lengths {
			for _, between := range []int{0, 1, 2} {
				p := newPair(t, 2)
				p.setFuse(first)
				for range between {
					p.write(0, "x")
				}
				p.setFuse(second)
				for range 5 {
					p.check()
					p.sync()
					p.check()
					p.write(1, "y")
				}
				p.checkCrashes()
			}
		}
	}
}

// TestDeadRemainsDead has fuses given to a dead disk, whose other results are as before the call in which it died.
func TestDeadRemainsDead(t *testing.T) {
	for _, length := range slices.Concat(extremes, []int{-1, 0, 1, 5}) {
		p := newPair(t, 3)
		p.write(1, "a")
		p.sync()
		p.write(1, "b")
		p.write(2, "c")
		p.setFuse(0)
		p.sync()
		p.setFuse(length)
		for range 3 {
			if !p.d.Dead() || p.d.Dirty() != 2 || p.d.Sectors() != 3 {
				p.fail("dead %v, %d of %d sectors dirty", p.d.Dead(), p.d.Dirty(), p.d.Sectors())
			}
			p.sync()
			p.write(0, "d")
			p.checkCrashes()
		}
	}
}
