package journal

import (
	"bytes"
	"slices"
	"strings"
	"testing"

	"election/api"
	"election/disk"
)

// TestAppendKeepsNothing changes what was appended, with the memory around it, after the call.
func TestAppendKeepsNothing(t *testing.T) {
	for _, length := range []int{0, 1, 61, 62, 199, 200, 201} {
		l := formatted(t, 16)
		want := bytes.Repeat([]byte{'w'}, length)
		memory := slices.Concat([]byte{'s'}, want, bytes.Repeat([]byte{'s'}, 300))
		before := slices.Clone(memory)
		err := l.j.Append(memory[1 : 1+length])
		if (err == api.OK) != (length >= 1 && length <= 200) || !slices.Equal(memory, before) {
			t.Fatalf("Append of %d bytes: error %d, memory %q", length, err, memory)
		}
		for i := range memory {
			memory[i] = 'x'
		}
		if err == api.OK {
			l.held = []string{string(want)}
			l.maybe = [][]string{l.held}
		}
		l.checkObject()
		l.open()
		l.restart()
	}
}

// TestFailedAppendKeepsNothing has Appends that do not add their entry.
func TestFailedAppendKeepsNothing(t *testing.T) {
	l := formatted(t, 8)
	l.append("a")
	dead := formatted(t, 12)
	dead.fuse(3)
	for _, j := range []*Journal{l.j, dead.j, dead.j, nil} {
		memory := bytes.Repeat([]byte{'w'}, 300)
		if err := j.Append(memory[:150]); err == api.OK || !slices.Equal(memory, bytes.Repeat([]byte{'w'}, 300)) {
			t.Errorf("error %d, memory %q", err, memory)
		}
	}
	l.checkObject()
	dead.checkObject()
}

// TestAllSharesNothing overwrites what All returned, with its spare capacity, and appends to it.
func TestAllSharesNothing(t *testing.T) {
	l := formatted(t, 40)
	for _, length := range []int{1, 61, 200, 2, 3} {
		l.append(strings.Repeat("a", length))
	}
	for range 2 {
		first, second := l.j.All(), l.j.All()
		for k := range first {
			whole := first[k][:cap(first[k])]
			for i := range whole {
				whole[i] = 'x'
			}
			if k+1 < len(first) && string(first[k+1]) != l.held[k+1] {
				t.Fatal("two entries of a result share memory")
			}
		}
		first = append(first[:1], []byte("y"))
		clear(first[:cap(first)])
		for k, b := range second {
			if string(b) != l.held[k] {
				t.Fatalf("two results share memory: entry %d is %q", k, b)
			}
		}
		l.checkObject()
		l.append("b")
		if len(second) != len(l.held)-1 {
			t.Fatal("a result follows the journal")
		}
		l.open()
		l.restart()
	}
}

// TestAllThenAppend has a result from before an Append, whose memory the journal must not use.
func TestAllThenAppend(t *testing.T) {
	l := formatted(t, 60)
	var results [][][]byte
	for _, b := range strings.Split("a b c d e f g", " ") {
		l.append(b)
		all := l.j.All()
		results = append(results, all)
		_ = append(all, []byte("x"))
		l.checkObject()
	}
	for k, all := range results {
		if len(all) != k+1 || string(all[k]) != l.held[k] {
			t.Errorf("the result after %d entries has %d", k+1, len(all))
		}
	}
}

// TestDiskIsUsed has a journal that writes to the disk it was opened on, and to no other.
func TestDiskIsUsed(t *testing.T) {
	d := disk.New(12)
	Format(d)
	other := d.Crash(nil)
	j, _ := Open(d)
	j.Append([]byte("a"))
	k, err := Open(d)
	if err != api.OK || k == j || k.Len() != 1 {
		t.Errorf("error %d, %d entries", err, k.Len())
	}
	if k, err := Open(other); err != api.OK || k.Len() != 0 {
		t.Errorf("the other disk: error %d, %d entries", err, k.Len())
	}
	d.Fuse(0)
	d.Sync()
	if j.Append([]byte("b")) != api.ErrDown {
		t.Error("the journal writes to a dead disk")
	}
}
