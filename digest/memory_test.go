package digest

import (
	"bytes"
	"slices"
	"testing"
)

// roomy returns a copy of b with spare capacity for a block and more, and all the memory that it lies in.
func roomy(b []byte) (arg, memory []byte) {
	memory = append(slices.Clone(b), bytes.Repeat([]byte{11}, 3*blockBytes)...)
	return memory[:len(b)], memory
}

// TestArgumentsAreKept checks that arguments are not changed, spare capacity included.
func TestArgumentsAreKept(t *testing.T) {
	s := source(5)
	for length := range 3 * blockBytes {
		a, memoryA := roomy(s.bytes(length))
		b, memoryB := roomy(s.bytes(length / 2))
		parts, memory := [][]byte{a, nil, b, a}, [][]byte{memoryA, memoryB}
		before := [][]byte{slices.Clone(memoryA), slices.Clone(memoryB)}
		Sum(a)
		Join(parts...)
		Of(parts[:2]...)
		if !slices.EqualFunc(memory, before, bytes.Equal) {
			t.Fatalf("%v became %v", before, memory)
		}
		if len(parts) != 4 || !bytes.Equal(parts[0], a) || parts[1] != nil || !bytes.Equal(parts[2], b) || !bytes.Equal(parts[3], a) {
			t.Fatalf("the list of the parts became %v", parts)
		}
	}
}

// TestJoinSharesNothing overwrites results of Join, with their spare capacity.
func TestJoinSharesNothing(t *testing.T) {
	for _, parts := range [][][]byte{{}, {nil}, {{1, 2, 3}}, {{1, 2, 3}, nil, {4}}} {
		var memory [][]byte
		args := make([][]byte, len(parts))
		for i, part := range parts {
			var whole []byte
			args[i], whole = roomy(part)
			memory = append(memory, whole)
		}
		before := slices.Concat(memory...)
		first, second := Join(args...), Join(args...)
		want := slices.Clone(second)
		spare := first[:cap(first)]
		for i := range spare {
			spare[i] = ^spare[i]
		}
		if !bytes.Equal(second, want) || !bytes.Equal(slices.Concat(memory...), before) || !bytes.Equal(Join(args...), want) {
			t.Errorf("a result of Join(%v) shares memory", parts)
		}
	}
}

// TestCallsAreIndependent repeats calls after others, whose messages leave other states.
func TestCallsAreIndependent(t *testing.T) {
	messages := [][]byte{nil, []byte("abc"), make([]byte, 64), bytes.Repeat([]byte{255}, 200)}
	for _, a := range messages {
		sum, of := Sum(a), Of(a, a)
		for _, b := range messages {
			Sum(b)
			Of(b)
			if Sum(a) != sum || Of(a, a) != of {
				t.Errorf("the digests of %v depend on the call before", a)
			}
		}
	}
}
