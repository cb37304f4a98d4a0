package disk

import (
	"fmt"
	"math/rand"
	"slices"
	"strings"
	"testing"

	"election/api"
)

// TestNew has all sizes near the limits.
func TestNew(t *testing.T) {
	for sectors := range api.MaxSectors + 100 {
		d := New(sectors)
		if (d != nil) != (sectors >= 1 && sectors <= 4096) || d.Sectors() != sectors && d != nil {
			t.Fatalf("New(%d): %v, with %d sectors", sectors, d != nil, d.Sectors())
		}
	}
	for _, sectors := range slices.Concat(extremes, []int{-4096, -64, -2, -1, 1<<32 + 1, 1<<32 + 4096}) {
		if New(sectors) != nil {
			t.Errorf("there is a disk with %d sectors", sectors)
		}
	}
}

// TestNewIsEmpty has no fuse: as many calls as a small number can count succeed.
func TestNewIsEmpty(t *testing.T) {
	for _, sectors := range []int{1, 2, 3, 64, 4096} {
		p := newPair(t, sectors)
		p.check()
		p.crash().check()
		p.crash(true).check()
	}
	d := New(1)
	for range 1 << 17 {
		if d.Write(0, nil) != api.OK || d.Sync() != api.OK {
			t.Fatal("a new disk has a fuse")
		}
	}
}

// TestWriteLengths writes each length over contents of each length.
func TestWriteLengths(t *testing.T) {
	for before := range api.Sector + 1 {
		for length := range api.Sector + 1 {
			p := newPair(t, 3)
			p.write(1, strings.Repeat("b", before))
			p.write(1, strings.Repeat("w", length))
			p.check()
			p.sync()
			p.write(1, strings.Repeat("s", before))
			p.check()
			p.crash().check()
			p.crash(true).check()
		}
	}
	p := newPair(t, 2)
	for length := range 300 {
		p.write(0, strings.Repeat("l", length))
		p.check()
	}
	p.write(0, strings.Repeat("l", 1<<20))
	p.check()
}

// TestWriteNothing has a nil and an empty slice, which leave the zero bytes alone and make the sector dirty.
func TestWriteNothing(t *testing.T) {
	for _, b := range [][]byte{nil, {}, make([]byte, 0, 9)} {
		d := New(2)
		d.Write(1, []byte("full"))
		d.Sync()
		if err := d.Write(1, b); err != api.OK || d.Dirty() != 1 {
			t.Errorf("error %d, %d dirty", err, d.Dirty())
		}
		if got, _ := d.Read(1); string(got) != padded("") {
			t.Errorf("the contents are %q", got)
		}
	}
}

// TestWriteBytes has all values of bytes, at all places.
func TestWriteBytes(t *testing.T) {
	p := newPair(t, 4)
	for first := range 256 {
		b := make([]byte, api.Sector)
		for k := range b {
			b[k] = byte(first + 5*k)
		}
		p.write(first%4, string(b))
		p.check()
	}
}

// TestAllSectors writes the sectors of the greatest disk in two orders.
func TestAllSectors(t *testing.T) {
	r := rand.New(rand.NewSource(1))
	for _, order := range [][]int{r.Perm(4096), r.Perm(4096)} {
		d := New(4096)
		for k, i := range order {
			if err := d.Write(i, fmt.Appendf(nil, "sector %d", i)); err != api.OK || d.Dirty() != k+1 {
				t.Fatalf("sector %d: error %d, %d dirty", i, err, d.Dirty())
			}
		}
		none, all := d.Crash(nil), d.Crash(slices.Repeat([]bool{true}, 4096))
		odd := make([]bool, 4096)
		for i := range odd {
			odd[i] = i%2 == 1
		}
		half := d.Crash(odd)
		for i := range order {
			want := padded(fmt.Sprintf("sector %d", i))
			checkContents(t, d, i, want)
			checkContents(t, all, i, want)
			checkContents(t, none, i, padded(""))
			if i%2 == 0 {
				want = padded("")
			}
			checkContents(t, half, i, want)
		}
		if d.Sync() != api.OK || d.Dirty() != 0 {
			t.Fatal("Sync of 4096 sectors leaves", d.Dirty())
		}
		checkContents(t, d.Crash(nil), order[0], padded(fmt.Sprintf("sector %d", order[0])))
	}
}

func checkContents(t *testing.T, d *Disk, i int, want string) {
	t.Helper()
	if got, err := d.Read(i); err != api.OK || string(got) != want {
		t.Fatalf("sector %d is %s and error %d, want %s", i, preview(string(got)), err, preview(want))
	}
}

// TestRange has numbers of sectors that do not exist.
func TestRange(t *testing.T) {
	for _, sectors := range []int{1, 2, 63, 64, 4095, 4096} {
		p := newPair(t, sectors)
		p.write(0, "zero")
		p.write(sectors-1, "last")
		for _, i := range slices.Concat(extremes, []int{-4097, -4096, -64, -2, -1, sectors, sectors + 1, 2 * sectors, 4096, 4097, 1<<32 + 1}) {
			if i == sectors-1 {
				continue
			}
			p.write(i, "x")
			p.write(i, strings.Repeat("x", 65))
			p.checkRead(i)
		}
		p.checkRead(0)
		p.checkRead(sectors - 1)
		if n := min(2, sectors); p.d.Dirty() != n {
			t.Errorf("%d of %d sectors are dirty, want %d", p.d.Dirty(), sectors, n)
		}
	}
}

// TestDirty has sectors that were written with the contents that they had, and several times.
func TestDirty(t *testing.T) {
	p := newPair(t, 5)
	for _, step := range []struct {
		sector int
		b      string
		dirty  int
	}{{3, "a", 1}, {3, "a", 1}, {3, "b", 1}, {0, "", 2}, {4, "c", 3}, {5, "d", 3}, {1, strings.Repeat("e", 65), 3}, {4, "", 3}, {-1, "", 3}, {1, "f", 4}, {2, "g", 5}, {2, "", 5}} {
		p.write(step.sector, step.b)
		if p.d.Dirty() != step.dirty {
			p.fail("%d are dirty, want %d", p.d.Dirty(), step.dirty)
		}
		p.checkCrashes()
	}
	for range 3 {
		p.sync()
		p.check()
		if p.d.Dirty() != 0 {
			p.fail("%d are dirty", p.d.Dirty())
		}
	}
	p.write(4, "c")
	p.write(3, "b")
	p.checkCrashes()
}

// TestNil calls everything on no disk at all.
func TestNil(t *testing.T) {
	var d *Disk
	numbers := slices.Concat(extremes, []int{-1, 0, 1, 4096})
	for _, i := range numbers {
		b, err := d.Read(i)
		if b != nil || err != api.ErrDown || d.Write(i, nil) != api.ErrDown || d.Write(i, make([]byte, 65)) != api.ErrDown {
			t.Error("Read or Write of", i)
		}
		d.Fuse(i)
		if d.Sync() != api.ErrDown || !d.Dead() || d.Dirty() != 0 || d.Sectors() != 0 {
			t.Error("a nil disk after Fuse of", i)
		}
	}
	for _, keep := range [][]bool{nil, {}, {true}, {false, true}} {
		if d.Crash(keep) != nil {
			t.Error("Crash of", keep)
		}
	}
}

// TestZeroDisk has a disk that New did not make. The document says nothing of it, but that no call panics.
func TestZeroDisk(t *testing.T) {
	for _, d := range []*Disk{{}, (&Disk{}).Crash(nil), (&Disk{}).Crash([]bool{true})} {
		for _, i := range slices.Concat(extremes, []int{-1, 0, 1}) {
			if b, err := d.Read(i); b != nil || err != api.ErrRange || d.Write(i, nil) != api.ErrRange {
				t.Error("sector", i)
			}
		}
		if d.Sync() != api.OK || d.Dirty() != 0 || d.Sectors() != 0 || d.Dead() {
			t.Error("a zero disk")
		}
		d.Fuse(0)
		if d.Sync() != api.ErrDown || !d.Dead() {
			t.Error("the fuse of a zero disk")
		}
	}
}

func Example() {
	d := New(5)
	d.Write(3, []byte("a"))
	d.Sync()
	d.Write(3, []byte("b"))
	d.Write(1, []byte("c"))
	after := d.Crash([]bool{true})
	one, _ := after.Read(1)
	three, err := after.Read(3)
	fmt.Println(d.Dirty(), after.Dirty(), string(one[:1]), string(three[:1]), err)
	d.Fuse(1)
	fmt.Println(d.Write(0, nil), d.Sync(), d.Dead())
	// Output:
	// 2 0 c a 0
	// 0 12 true
}
