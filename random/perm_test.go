package random

import (
	"math"
	"slices"
	"testing"
)

// wantPerm computes Perm of a source that has drawn k words, and the number of words that it has drawn then.
func wantPerm(seed string, k uint64, n int) ([]int, uint64) {
	var list []int
	for i := range n {
		list = append(list, i)
	}
	for i := n - 1; i >= 1; i-- {
		var other int
		other, k = wantBelow(seed, k, i+1)
		list[i], list[other] = list[other], list[i]
	}
	return list, k
}

func TestPerm(t *testing.T) {
	for _, seed := range []string{"", "p", "\xff"} {
		for _, n := range []int{0, 1, 2, 3, 4, 5, 7, 16, 50, 255, 256, 1000, 1023, 1024} {
			s := New(seed)
			want, drawn := wantPerm(seed, 0, n)
			if got := s.Perm(n); !slices.Equal(got, want) {
				t.Fatalf("Perm(%d) of %q is %v, want %v", n, seed, got, want)
			}
			if drawn != uint64(max(n-1, 0)) {
				t.Fatalf("%q rejects a word for %d", seed, n)
			}
			checkDrawn(t, s, seed, drawn)
			if got := Order(seed, n); !slices.Equal(got, want) {
				t.Errorf("Order(%q, %d) is %v, want %v", seed, n, got, want)
			}
		}
	}
}

// TestPermKnown has a permutation of 3 that was computed by hand, from the words of "seed" in TestWordKnown: word 0 modulo 3 is 1, and word 1 modulo 2 is 1.
func TestPermKnown(t *testing.T) {
	if got := Order("seed", 3); !slices.Equal(got, []int{0, 2, 1}) {
		t.Error("Order of 3 is", got)
	}
}

func TestPermOfNothing(t *testing.T) {
	s := New("p")
	for _, n := range []int{math.MinInt, -1025, -1, 1025, 1026, 1 << 31, 1 << 32, 1<<32 + 1, math.MaxInt} {
		if got := s.Perm(n); got != nil {
			t.Errorf("Perm(%d) has %d elements", n, len(got))
		}
		if got := Order("p", n); got != nil {
			t.Errorf("Order of %d has %d elements", n, len(got))
		}
	}
	checkDrawn(t, s, "p", 0)
}

// TestPermDrawsNothing has the permutations that need no words.
func TestPermDrawsNothing(t *testing.T) {
	s := New("p")
	if got := s.Perm(0); len(got) != 0 {
		t.Error("Perm(0) is", got)
	}
	if got := s.Perm(1); !slices.Equal(got, []int{0}) {
		t.Error("Perm(1) is", got)
	}
	checkDrawn(t, s, "p", 0)
}

// TestPermContinues has permutations after other draws of the same source.
func TestPermContinues(t *testing.T) {
	s, drawn := New("c"), uint64(0)
	for n := range 30 {
		checkDrawn(t, s, "c", drawn)
		want, next := wantPerm("c", drawn+1, n)
		if got := s.Perm(n); !slices.Equal(got, want) {
			t.Fatalf("Perm(%d) after %d words is %v, want %v", n, drawn+1, got, want)
		}
		drawn = next
	}
}

// TestOrderKeepsNothing repeats calls of Order.
func TestOrderKeepsNothing(t *testing.T) {
	first, other := Order("a", 20), Order("b", 20)
	if slices.Equal(first, other) {
		t.Error("Order does not depend on the seed")
	}
	if again := Order("a", 20); !slices.Equal(first, again) {
		t.Errorf("Order is %v and then %v", first, again)
	}
}

// TestPermSharesNothing overwrites results, with their spare capacity.
func TestPermSharesNothing(t *testing.T) {
	for _, n := range []int{0, 1, 2, 40, 1024} {
		s, undisturbed := New("m"), New("m")
		undisturbed.Perm(n)
		want := undisturbed.Perm(n)
		first := s.Perm(n)
		second := s.Perm(n)
		for _, list := range [][]int{first, Order("m", n)} {
			for i := range list[:cap(list)] {
				list[:cap(list)][i] = -1
			}
		}
		if !slices.Equal(second, want) {
			t.Errorf("a result of Perm(%d) shares memory", n)
		}
		if got, order := Order("m", n), New("m").Perm(n); !slices.Equal(got, order) || slices.Contains(got, -1) {
			t.Errorf("a result of Order of %d shares memory", n)
		}
	}
}
