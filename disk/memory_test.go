package disk

import (
	"bytes"
	"slices"
	"testing"

	"election/api"
)

// roomy returns a slice with spare capacity, and the whole memory that it lies in.
func roomy[T any](list []T, filler T) (arg, memory []T) {
	memory = append([]T{filler}, append(slices.Clone(list), slices.Repeat([]T{filler}, 100)...)...)
	return memory[1 : 1+len(list)], memory
}

// TestWriteKeepsNothing changes what was written, with its spare capacity, after the call.
func TestWriteKeepsNothing(t *testing.T) {
	for _, length := range []int{0, 1, 63, 64} {
		d := New(2)
		want := bytes.Repeat([]byte{'w'}, length)
		b, memory := roomy(want, 's')
		before := slices.Clone(memory)
		if err := d.Write(1, b); err != api.OK || !slices.Equal(memory, before) {
			t.Fatalf("Write of %d bytes: error %d, memory %q", length, err, memory)
		}
		for i := range memory {
			memory[i] = 'x'
		}
		checkContents(t, d, 1, padded(string(want)))
		checkContents(t, d, 0, padded(""))
		checkContents(t, d.Crash([]bool{true}), 1, padded(string(want)))
		d.Sync()
		checkContents(t, d.Crash(nil), 1, padded(string(want)))
	}
}

// TestErrorsChangeNoArgument has Writes that fail.
func TestErrorsChangeNoArgument(t *testing.T) {
	dead := New(1)
	dead.Fuse(0)
	for _, c := range []struct {
		d      *Disk
		sector int
		length int
	}{{nil, 0, 5}, {New(2), 2, 5}, {New(2), 0, 65}, {dead, 0, 5}, {dead, 0, 5}} {
		b, memory := roomy(bytes.Repeat([]byte{'w'}, c.length), 's')
		before := slices.Clone(memory)
		if err := c.d.Write(c.sector, b); err == api.OK || !slices.Equal(memory, before) {
			t.Errorf("error %d, memory %q", err, memory)
		}
	}
}

// TestReadSharesNothing overwrites what was read, with its spare capacity.
func TestReadSharesNothing(t *testing.T) {
	d := New(3)
	for i := range 3 {
		d.Write(i, bytes.Repeat([]byte{byte('a' + i)}, 64))
	}
	d.Sync()
	d.Write(1, []byte("new"))
	first, _ := d.Read(1)
	second, _ := d.Read(1)
	other, _ := d.Read(2)
	for _, b := range [][]byte{first, other} {
		for i := range b[:cap(b)] {
			b[:cap(b)][i] = 'x'
		}
	}
	if string(second) != padded("new") {
		t.Errorf("two results share memory: %q", second)
	}
	old, synced := string(bytes.Repeat([]byte{'b'}, 64)), d.Crash(nil)
	for i, want := range []string{string(bytes.Repeat([]byte{'a'}, 64)), padded("new"), string(bytes.Repeat([]byte{'c'}, 64))} {
		checkContents(t, d, i, want)
		checkContents(t, d.Crash([]bool{true}), i, want)
	}
	checkContents(t, synced, 1, old)
	d.Write(1, []byte("newer"))
	if string(second) != padded("new") {
		t.Errorf("a result follows the disk: %q", second)
	}
}

// TestWriteOfRead writes what was read of the same disk.
func TestWriteOfRead(t *testing.T) {
	d := New(2)
	d.Write(0, []byte("abc"))
	for range 3 {
		b, _ := d.Read(0)
		if d.Write(0, b) != api.OK || d.Write(1, b[:2]) != api.OK {
			t.Fatal("Write")
		}
		b[0] = 'x'
		checkContents(t, d, 0, padded("abc"))
		checkContents(t, d, 1, padded("ab"))
	}
}

// TestCrashKeepsNothing changes the list with its spare capacity, which is true, after the call.
func TestCrashKeepsNothing(t *testing.T) {
	d := New(4)
	for i := range 4 {
		d.Write(i, []byte("new"))
	}
	keep, memory := roomy([]bool{true, false}, true)
	before := slices.Clone(memory)
	c := d.Crash(keep)
	if !slices.Equal(memory, before) {
		t.Error("Crash changes its argument")
	}
	for i := range memory {
		memory[i] = !memory[i]
	}
	for i, want := range []string{"new", "", "", ""} {
		checkContents(t, c, i, padded(want))
		checkContents(t, c.Crash(memory), i, padded(want))
	}
}

// TestRepeatedCalls has disks of the same size, which know nothing of each other.
func TestRepeatedCalls(t *testing.T) {
	a, b := New(3), New(3)
	a.Write(1, []byte("a"))
	a.Fuse(0)
	a.Sync()
	if b.Dead() || b.Dirty() != 0 || New(3).Dirty() != 0 || New(3).Dead() {
		t.Error("a disk changes another")
	}
	checkContents(t, b, 1, padded(""))
	checkContents(t, New(3), 1, padded(""))
	for range 3 {
		checkContents(t, a.Crash([]bool{true}), 1, padded("a"))
		checkContents(t, a.Crash(nil), 1, padded(""))
	}
}
