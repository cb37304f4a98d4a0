package journal

import (
	"bytes"
	"fmt"
	"math/rand"
	"slices"
	"strings"
	"testing"

	"election/api"
	"election/disk"
)

// TestCapacity has the disks of all sizes.
func TestCapacity(t *testing.T) {
	for sectors := 1; sectors <= api.MaxSectors; sectors++ {
		d := disk.New(sectors)
		err := Format(d)
		if sectors < 8 {
			if err != api.ErrLength || d.Dirty() != 0 {
				t.Errorf("Format of %d sectors: error %d, %d dirty", sectors, err, d.Dirty())
			}
			continue
		}
		j, openErr := Open(d)
		if err != api.OK || openErr != api.OK || j.Len() != 0 || len(j.All()) != 0 || j.Room() != (sectors-4)/4 {
			t.Fatalf("%d sectors: errors %d and %d, length %d, room %d", sectors, err, openErr, j.Len(), j.Room())
		}
	}
}

// TestFull fills journals of many sizes with entries of all lengths, and opens them again and again.
func TestFull(t *testing.T) {
	r := rand.New(rand.NewSource(1))
	for sectors := 8; sectors <= 90; sectors++ {
		l := formatted(t, sectors)
		for range room(sectors) + 2 {
			l.append(noise(r, 1+r.Intn(200)))
			l.open()
			l.restart()
		}
		if l.j.Room() != 0 || l.j.Len() != room(sectors) {
			l.fail("length %d, room %d", l.j.Len(), l.j.Room())
		}
	}
}

// TestGreatest fills the greatest disks, with the longest entries.
func TestGreatest(t *testing.T) {
	r := rand.New(rand.NewSource(2))
	for _, sectors := range []int{1600, 4093, 4095, 4096} {
		d := disk.New(sectors)
		Format(d)
		j, _ := Open(d)
		var want []string
		for k := range room(sectors) {
			want = append(want, noise(r, 200))
			if err := j.Append([]byte(want[k])); err != api.OK || j.Room() != room(sectors)-k-1 {
				t.Fatalf("%d sectors, entry %d: error %d, room %d", sectors, k, err, j.Room())
			}
		}
		again, err := Open(d.Crash(nil))
		if err != api.OK || !slices.Equal(entries(again), want) || !slices.Equal(entries(j), want) {
			t.Errorf("%d sectors: error %d, %d entries", sectors, err, again.Len())
		}
		if again.Append([]byte("x")) != api.ErrFull || j.Append([]byte("x")) != api.ErrFull || again.Len() != len(want) {
			t.Errorf("%d sectors: one more entry", sectors)
		}
	}
}

// TestLengths has entries of each length, each behind and before others.
func TestLengths(t *testing.T) {
	for length := range 300 {
		l := formatted(t, 20)
		l.append("before")
		b := strings.Repeat("b", length)
		if length < 1 || length > 200 {
			checkTooLong(l, b)
			continue
		}
		if !l.append(b) || !l.append("after") {
			l.fail("Append failed")
		}
		l.restart()
	}
	for _, length := range []int{456, 512, 1 << 16, 1<<16 + 1, 1 << 20} {
		checkTooLong(formatted(t, 20), strings.Repeat("b", length))
	}
}

// checkTooLong appends an entry of a length that is not permitted, which changes nothing.
func checkTooLong(l *ledger, b string) {
	l.t.Helper()
	before := contents(l.d)
	l.fuse(0)
	if err := l.j.Append([]byte(b)); err != api.ErrLength || l.d.Dead() || l.d.Dirty() != 0 || contents(l.d) != before {
		l.fail("Append of %d bytes: error %d, dead %v", len(b), err, l.d.Dead())
	}
	l.checkObject()
	l.open()
}

// contents returns all bytes of a disk that is not dead.
func contents(d *disk.Disk) string {
	var all []byte
	for i := range d.Sectors() {
		b, _ := d.Read(i)
		all = append(all, b...)
	}
	return string(all)
}

// TestBytes has entries of all bytes, among them those that consist of zero bytes and those that end with them.
func TestBytes(t *testing.T) {
	for value := range 256 {
		l := formatted(t, 24)
		for _, length := range []int{1, 61, 200} {
			l.append(strings.Repeat(string([]byte{byte(value)}), length))
		}
		mixed := make([]byte, 200)
		for k := range mixed {
			mixed[k] = byte(value + k)
		}
		l.append(string(mixed))
		l.append("x" + strings.Repeat(string([]byte{byte(value)}), 199))
		l.restart()
	}
}

// TestErrorOrder has calls to which several errors apply, and calls with an error on a disk that would die if they wrote to it.
func TestErrorOrder(t *testing.T) {
	l := formatted(t, 11)
	l.append("a")
	before := contents(l.d)
	l.fuse(0)
	for _, c := range []struct {
		length int
		want   api.Errno
	}{{0, api.ErrLength}, {201, api.ErrLength}, {1, api.ErrFull}, {200, api.ErrFull}} {
		if err := l.j.Append(make([]byte, c.length)); err != c.want || l.d.Dead() || l.d.Dirty() != 0 || contents(l.d) != before {
			l.fail("Append of %d bytes: error %d, want %d; dead %v", c.length, err, c.want, l.d.Dead())
		}
		l.checkObject()
	}
	l.d.Sync()
	for _, length := range []int{0, 1, 200, 201} {
		if err := l.j.Append(make([]byte, length)); err != api.ErrDown {
			l.fail("Append of %d bytes on a dead disk: error %d", length, err)
		}
		l.checkObject()
	}
	checkDead(l.t, l.d)
	for sectors := 1; sectors < 8; sectors++ {
		small := disk.New(sectors)
		small.Fuse(0)
		if err := Format(small); err != api.ErrLength || small.Dead() {
			t.Errorf("Format of %d sectors: error %d, dead %v", sectors, err, small.Dead())
		}
		small.Sync()
		checkDead(t, small)
	}
	blank := disk.New(12)
	blank.Fuse(0)
	blank.Sync()
	checkDead(t, blank)
}

// checkDead formats and opens a dead disk, or none.
func checkDead(t *testing.T, d *disk.Disk) {
	t.Helper()
	before := d.Dirty()
	j, err := Open(d)
	if formatErr := Format(d); formatErr != api.ErrDown || err != api.ErrDown || j != nil || d.Dirty() != before {
		t.Errorf("a dead disk with %d sectors: errors %d and %d", d.Sectors(), formatErr, err)
	}
}

// TestBlank opens disks of zero bytes, to which nothing or only zero bytes were written.
func TestBlank(t *testing.T) {
	for _, sectors := range []int{1, 3, 4, 7, 8, 12, 4096} {
		d := disk.New(sectors)
		for range 2 {
			for _, blank := range []*disk.Disk{d, d.Crash(nil), d.Crash([]bool{true, true})} {
				if j, err := Open(blank); j != nil || err != api.ErrForm || blank.Dead() {
					t.Errorf("Open of %d sectors: error %d", sectors, err)
				}
			}
			d.Write(0, nil)
			d.Write(sectors-1, make([]byte, 64))
		}
	}
}

// TestNil has no journal and no disk at all, and those that are zero values.
func TestNil(t *testing.T) {
	checkDead(t, nil)
	for _, j := range []*Journal{nil, {}} {
		for _, b := range [][]byte{nil, {}, []byte("a"), make([]byte, 201)} {
			if err := j.Append(b); err != api.ErrDown {
				t.Errorf("Append of %d bytes: error %d", len(b), err)
			}
		}
		if len(j.All()) != 0 || j.Len() != 0 || j.Room() != 0 {
			t.Error("a nil journal has entries")
		}
	}
	if err := Format(&disk.Disk{}); err != api.ErrLength {
		t.Error("Format of a zero disk: error", err)
	}
	if j, err := Open(&disk.Disk{}); j != nil || err != api.ErrForm {
		t.Error("Open of a zero disk: error", err)
	}
}

// TestOtherDisks opens disks that no journal wrote. The document says nothing of them, but that no call panics.
func TestOtherDisks(t *testing.T) {
	r := rand.New(rand.NewSource(3))
	for range 20000 {
		d := disk.New(1 + r.Intn(20))
		for i := range d.Sectors() {
			d.Write(i, []byte(noise(r, r.Intn(65))))
		}
		useAnyway(t, d)
	}
	l := formatted(t, 14)
	l.append("a")
	l.append(strings.Repeat("b", 200))
	for i := range 14 {
		sector, _ := l.d.Read(i)
		for place := range sector {
			for value := range 256 {
				changed := slices.Clone(sector)
				changed[place] = byte(value)
				d := l.d.Crash(nil)
				d.Write(i, changed)
				useAnyway(t, d)
			}
		}
	}
	for sectors := 1; sectors < 8; sectors++ {
		d := disk.New(sectors)
		for i := range sectors {
			b, _ := l.d.Read(i)
			d.Write(i, b)
		}
		useAnyway(t, d)
	}
}

// useAnyway opens a disk and, if that succeeds, uses the journal.
func useAnyway(t *testing.T, d *disk.Disk) {
	t.Helper()
	j, err := Open(d)
	if (j == nil) != (err != api.OK) {
		t.Fatalf("error %d with the journal %v", err, j)
	}
	before, room := entries(j), j.Room()
	if err := j.Append([]byte("x")); (err == api.OK) != (room > 0) || room < 0 || j.Len()+j.Room() != len(before)+room {
		t.Fatalf("Append with room %d: error %d", room, err)
	}
}

// TestSeveralDisks has journals that know nothing of each other, not even those on the disks of one crash.
func TestSeveralDisks(t *testing.T) {
	a, b := formatted(t, 16), formatted(t, 24)
	a.append("a")
	b.append("b")
	c := a.crash()
	c.open()
	c.append("c")
	a.append("d")
	a.fuse(2)
	a.append("e")
	b.append("f")
	c.append("g")
	for _, l := range []*ledger{a, b, c} {
		l.checkObject()
		l.restart()
	}
	if b.j.Len() != 2 || c.j.Len() != 3 || a.j.Len() != 2 {
		t.Error("journals change each other")
	}
}

// TestFormatOfOneDisk has a format of a disk beside another, of which the journals have the same entries.
func TestFormatOfOneDisk(t *testing.T) {
	a, b := formatted(t, 16), formatted(t, 16)
	for _, l := range []*ledger{a, b} {
		l.append("a")
		l.append("b")
	}
	a.format()
	a.open()
	b.checkObject()
	b.open()
	if a.j.Len() != 0 || b.j.Len() != 2 {
		t.Error("Format of a disk changes another one")
	}
}

func Example() {
	d := disk.New(12)
	fmt.Println(Format(d))
	j, _ := Open(d)
	fmt.Println(j.Append([]byte("a")), j.Len(), j.Room())
	d.Fuse(2)
	fmt.Println(j.Append([]byte("b")), j.Len())
	d = d.Crash([]bool{true})
	j, err := Open(d)
	fmt.Println(string(bytes.Join(j.All(), nil)), err)
	fmt.Println(j.Append([]byte("c")), j.Append([]byte("d")), string(bytes.Join(j.All(), nil)))
	// Output:
	// 0
	// 0 1 1
	// 12 1
	// a 0
	// 0 10 ac
}
