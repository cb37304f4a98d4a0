package image

import (
	"bytes"
	"slices"
	"testing"

	"election/api"
)

// roomy returns a copy of b with spare capacity that is not zero, and all the memory that it lies in.
func roomy(b []byte) (arg, memory []byte) {
	memory = append(slices.Clone(b), bytes.Repeat([]byte{11}, 40)...)
	return memory[:len(b)], memory
}

// results returns the bytes of all results that the functions return for these arguments, whose sizes are equal, and the encoding of an image.
func results(a, b api.Image, code []byte) [][]byte {
	fresh, _ := New(a.W, a.H)
	again, _ := New(a.W, a.H)
	xor, _ := Xor(a, b)
	self, _ := Xor(a, a)
	decoded, _ := Decode(code)
	twice, _ := Decode(code)
	list := [][]byte{Encode(a), Encode(a), Encode(b)}
	for _, i := range []api.Image{
		fresh, again, xor, self, decoded, twice,
		Fill(a, 0, 0, 2, 2, true), Fill(a, 0, 0, 2, 2, true), Fill(a, 0, 0, 0, 0, true), Fill(b, -9, -9, 1, 1, false),
		Shift(a, 1, 0), Shift(a, 0, 0), Shift(b, 0, 0), Shift(a, 600, 0), Turn(a), Turn(a), Turn(b),
	} {
		list = append(list, i.Bits)
	}
	Valid(a)
	Get(a, 0, 0)
	Count(a, 0, 0, a.W, a.H)
	return list
}

func cloneAll(list [][]byte) [][]byte {
	var clones [][]byte
	for _, b := range list {
		clones = append(clones, slices.Clone(b))
	}
	return clones
}

// TestMemory checks that arguments are not changed, spare capacity included, and that results share memory neither with them nor with each other.
func TestMemory(t *testing.T) {
	for _, p := range append(samples(), blank(512, 512), full(512, 512)) {
		a, b := p.toImage(), p.turn().toImage()
		var memory [3][]byte
		var code []byte
		a.Bits, memory[0] = roomy(a.Bits)
		b.Bits, memory[1] = roomy(b.Bits)
		code, memory[2] = roomy(p.encode())
		before := cloneAll(memory[:])
		got := results(a, b, code)
		if !slices.EqualFunc(memory[:], before, bytes.Equal) {
			t.Fatalf("the arguments %s and %s were changed", preview(a), preview(b))
		}
		checkSeparate(t, append(got, memory[:]...), len(got))
		again := results(a, b, code)
		for i := range got {
			if !slices.EqualFunc(memory[:], before, bytes.Equal) || !bytes.Equal(again[i], got[i]) {
				t.Fatalf("the result %d for %s is kept", i, preview(a))
			}
		}
	}
}

// checkSeparate overwrites each of the first count slices in turn, with its spare capacity, checks that nothing else changes, and restores it.
func checkSeparate(t *testing.T, all [][]byte, count int) {
	t.Helper()
	before := cloneAll(all)
	for i := range count {
		whole := all[i][:cap(all[i])]
		kept := slices.Clone(whole)
		for k := range whole {
			whole[k] = ^whole[k]
		}
		for other := range all {
			if other != i && !bytes.Equal(all[other], before[other]) {
				t.Fatalf("the slices %d and %d share memory", i, other)
			}
		}
		copy(whole, kept)
	}
}

// TestKeepsNothing overwrites a result with its spare capacity, and repeats the call.
func TestKeepsNothing(t *testing.T) {
	for _, p := range samples() {
		a, b, code := p.toImage(), p.turn().toImage(), p.encode()
		want := cloneAll(results(a, b, code))
		for _, result := range results(a, b, code) {
			whole := result[:cap(result)]
			for k := range whole {
				whole[k] = 77
			}
		}
		if got := results(a, b, code); !slices.EqualFunc(got, want, bytes.Equal) {
			t.Fatalf("the results for %s depend on the calls before", preview(a))
		}
	}
}

// TestSpareCapacity has images whose spare bytes would complete them, or make them longer.
func TestSpareCapacity(t *testing.T) {
	for _, p := range samples() {
		i := p.toImage()
		i.Bits, _ = roomy(i.Bits)
		if !Valid(i) || !bytes.Equal(Encode(i), p.encode()) {
			t.Errorf("%s with spare capacity is not valid", preview(i))
		}
		i.Bits = i.Bits[:len(i.Bits)-1]
		if Valid(i) || !isZero(Turn(i)) {
			t.Errorf("%s with too few bytes is valid", preview(i))
		}
		code, _ := roomy(p.encode())
		checkNoImage(t, code[:len(code)-1])
	}
}
