package journal

import (
	"math/rand"
	"slices"
	"strings"
	"testing"

	"election/api"
	"election/disk"
)

// reformat formats a disk with whatever contents, and checks that they never come back, whatever is appended.
func reformat(t *testing.T, d *disk.Disk, what string) {
	t.Helper()
	l := &ledger{t: t, d: d, steps: []string{what}}
	if !l.format() || l.d.Dirty() != 0 {
		l.fail("Format failed, or %d sectors are dirty", l.d.Dirty())
	}
	l.restart()
	l.open()
	l.restart(true, true, true)
	for k := range room(d.Sectors()) {
		if !l.append(strings.Repeat("n", 1+k%200)) {
			l.fail("Append failed")
		}
		l.restart()
	}
}

// TestFormatEntries formats disks with journals of all lengths.
func TestFormatEntries(t *testing.T) {
	for count := range 10 {
		l := formatted(t, 40)
		for k := range count {
			l.append(strings.Repeat("o", 20*k+1))
		}
		reformat(t, l.d, "a journal")
		reformat(t, l.d, "a journal that was formatted")
	}
}

// TestFormatNoise formats disks with random contents.
func TestFormatNoise(t *testing.T) {
	r := rand.New(rand.NewSource(6))
	for range 300 {
		d := disk.New(8 + r.Intn(30))
		for i := range d.Sectors() {
			d.Write(i, []byte(noise(r, r.Intn(65))))
		}
		if r.Intn(2) == 0 {
			d.Sync()
		}
		reformat(t, d, "noise")
	}
	for value := range 256 {
		d := disk.New(20)
		for i := range d.Sectors() {
			d.Write(i, slices.Repeat([]byte{byte(value)}, 64))
		}
		d.Sync()
		reformat(t, d, "equal bytes")
	}
}

// worn returns a disk on which journals wrote before, of which entries of several remain.
func worn(t *testing.T, sectors int) *disk.Disk {
	t.Helper()
	l := formatted(t, sectors)
	for count := room(sectors); count > 0; count -= 2 {
		for range count {
			l.append(strings.Repeat("o", 200))
		}
		l.format()
		l.open()
	}
	l.append("last")
	return l.d
}

// TestFormatChanged formats disks of journals of which any sector was overwritten by any other, by zero bytes or by other bytes, durably or not.
func TestFormatChanged(t *testing.T) {
	const sectors = 28
	w := worn(t, sectors)
	for i := range sectors {
		changes := [][]byte{nil, slices.Repeat([]byte{255}, 64), slices.Repeat([]byte{1}, 64)}
		for k := range sectors {
			b, _ := w.Read(k)
			changes = append(changes, b)
		}
		for _, b := range changes {
			for _, durable := range []bool{false, true} {
				d := w.Crash(nil)
				d.Write(i, b)
				if durable {
					d.Sync()
				}
				reformat(t, d, "a changed journal")
			}
		}
	}
}

// TestFormatCopies formats disks that consist of any mixture of the sectors of journals.
func TestFormatCopies(t *testing.T) {
	r := rand.New(rand.NewSource(7))
	sources := []*disk.Disk{worn(t, 40), formatted(t, 40).d, worn(t, 24), disk.New(1)}
	for range 1000 {
		d := disk.New(8 + r.Intn(24))
		for i := range d.Sectors() {
			source := sources[r.Intn(len(sources))]
			b, _ := source.Read((i + 4*r.Intn(5)) % source.Sectors())
			d.Write(i, b)
		}
		reformat(t, d, "copies")
	}
}

// TestManyFormats leaves an entry of each of many journals on the disk: the k-th of them fills all places but k.
func TestManyFormats(t *testing.T) {
	const journals = 600
	d := disk.New(4 * (journals + 1))
	for k := range journals {
		if Format(d) != api.OK {
			t.Fatal("Format", k)
		}
		j, err := Open(d)
		if err != api.OK || j.Len() != 0 {
			t.Fatalf("journal %d: error %d, %d entries", k, err, j.Len())
		}
		for range journals - k {
			j.Append([]byte{byte(k), byte(k >> 8)})
		}
		again, err := Open(d)
		if err != api.OK || again.Len() != journals-k || !slices.Equal(entries(again), entries(j)) {
			t.Fatalf("journal %d: error %d, %d entries", k, err, again.Len())
		}
	}
	reformat(t, d, "many journals")
}

// TestRepeatedFormats formats a disk more often than two bytes can count.
func TestRepeatedFormats(t *testing.T) {
	d := disk.New(16)
	for k := range 1<<16 + 1<<9 {
		if Format(d) != api.OK {
			t.Fatal("Format", k)
		}
		j, err := Open(d)
		if err != api.OK || j.Len() != 0 || j.Append([]byte("a")) != api.OK || k%3 == 0 && j.Append([]byte("b")) != api.OK {
			t.Fatalf("journal %d: error %d, %d entries", k, err, j.Len())
		}
	}
	reformat(t, d, "repeated formats")
}

// TestOpenOfReplaced opens a disk that was formatted twice, with the journal of the first time still there. It is not used any more.
func TestOpenOfReplaced(t *testing.T) {
	l := formatted(t, 16)
	l.append("old")
	old := l.j
	l.format()
	l.open()
	l.append("new")
	l.restart()
	if got := entries(old); !slices.Equal(got, []string{"old"}) {
		t.Error("the replaced journal is", previews(got))
	}
}
