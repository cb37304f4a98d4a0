package random

import (
	"math"
	"testing"
)

func TestBelow(t *testing.T) {
	numbers := []int{1, 2, 3, 4, 5, 6, 7, 10, 255, 256, 257, 1000, 1024, 65535, 65537, 1<<30 + 1, 1<<31 - 1, 1 << 31}
	for _, seed := range []string{"", "x", "seed"} {
		s, drawn := New(seed), uint64(0)
		for range 20 {
			for _, n := range numbers {
				want, next := wantBelow(seed, drawn, n)
				if got := s.Below(n); got != want {
					t.Fatalf("Below(%d) after %d words of %q is %d, want %d", n, drawn, seed, got, want)
				}
				drawn = next
			}
		}
		checkDrawn(t, s, seed, drawn)
	}
}

// TestBelowOne checks that even the number that needs no word draws one.
func TestBelowOne(t *testing.T) {
	s := New("one")
	for k := range uint64(5) {
		if got := s.Below(1); got != 0 {
			t.Error("Below(1) is", got)
		}
		checkDrawn(t, s, "one", 2*k+1)
	}
}

func TestBelowNothing(t *testing.T) {
	s := New("x")
	for _, n := range []int{math.MinInt, -1 << 31, -2, -1, 0, 1<<31 + 1, 1 << 32, 1<<32 + 1, 1<<63 - 1} {
		if got := s.Below(n); got != 0 {
			t.Errorf("Below(%d) is %d", n, got)
		}
	}
	checkDrawn(t, s, "x", 0)
}

// script returns a source of the words of a list, and the number of words drawn from it.
func script(t *testing.T, words []uint64) (draw func() uint64, drawn *int) {
	drawn = new(int)
	return func() uint64 {
		if *drawn == len(words) {
			t.Fatalf("more than %d words are drawn", len(words))
		}
		*drawn++
		return words[*drawn-1]
	}, drawn
}

// TestChoose has words that a source yields too rarely for a test of Below.
func TestChoose(t *testing.T) {
	top := uint64(math.MaxUint64)
	for _, c := range []struct {
		n     int
		words []uint64 // all that are to be drawn
		want  int
	}{
		{3, []uint64{0}, 0},
		{3, []uint64{top - 1}, 2},
		{3, []uint64{top, 4}, 1},
		{3, []uint64{top, top, top, top - 1}, 2},
		{1, []uint64{top}, 0},
		{2, []uint64{top}, 1},
		{1024, []uint64{top}, 1023},
		{1 << 31, []uint64{top}, 1<<31 - 1},
		{1<<31 - 1, []uint64{top - 4}, 1<<31 - 2},
		{1<<31 - 1, []uint64{top - 3, top, 5}, 5},
		{10, []uint64{top - 6}, 9},
		{10, []uint64{top - 5, top - 4, top, 123}, 3},
	} {
		draw, drawn := script(t, c.words)
		if got := choose(draw, uint64(c.n)); got != uint64(c.want) || *drawn != len(c.words) {
			t.Errorf("%d of %x is %d after %d words, want %d", c.n, c.words, got, *drawn, c.want)
		}
	}
}

// TestChooseLast has as many rejected words as there may be, and draws that end with the 16th in any case.
func TestChooseLast(t *testing.T) {
	for rejected := range 16 {
		words := make([]uint64, rejected, 17)
		for i := range words {
			words[i] = math.MaxUint64
		}
		draw, drawn := script(t, append(words, 8))
		if got := choose(draw, 3); got != 2 || *drawn != rejected+1 {
			t.Errorf("3 after %d rejected words is %d after %d words", rejected, got, *drawn)
		}
	}
	words := make([]uint64, 16)
	for i := range words {
		words[i] = math.MaxUint64 - uint64(i)
	}
	draw, drawn := script(t, words)
	if got := choose(draw, 1000); got != 600 || *drawn != 16 {
		t.Errorf("1000 of rejected words alone is %d after %d words", got, *drawn)
	}
}

// TestChooseLimits has the first words that are rejected and the last ones that are accepted, as distances from 2^64 - 1.
func TestChooseLimits(t *testing.T) {
	numbers := []int{65535, 65536, 65537, 365426207, 1<<30 + 1, 1<<31 - 3, 1<<31 - 2, 1<<31 - 1, 1 << 31}
	for n := 1; n < 3000; n++ {
		numbers = append(numbers, n)
	}
	for _, n := range numbers {
		rest := wantRest(n)
		for _, back := range []uint64{0, 1, rest - 2, rest - 1, rest, rest + 1, uint64(n) - 1, uint64(n)} {
			x := math.MaxUint64 - back
			want, count := x%uint64(n), 1
			if back < rest {
				want, count = 0, 2
			}
			draw, drawn := script(t, []uint64{x, 0})
			if got := choose(draw, uint64(n)); got != want || *drawn != count {
				t.Fatalf("%d of %d is %d after %d words, want %d after %d", n, x, got, *drawn, want, count)
			}
		}
	}
}

// TestBelowRejects has a seed whose first word, 2^64 - 147838539, is among the few that Below rejects.
func TestBelowRejects(t *testing.T) {
	const seed = "5749340179"
	for _, c := range []struct{ n, draws int }{
		{1, 1},
		{1024, 1},
		{147838539, 1},
		{365426207, 1},  // 2^64 mod n is 147838538
		{730852414, 1},  // likewise
		{1941541529, 1}, // likewise
		{410883989, 2},  // 2^64 mod n is 147838543
		{1232651967, 2}, // likewise
		{1093477381, 2}, // 2^64 mod n is 147838549
		{1<<31 - 1, 1},
		{1 << 31, 1},
	} {
		want, drawn := wantBelow(seed, 0, c.n)
		if drawn != uint64(c.draws) {
			t.Errorf("%d needs %d words, want %d", c.n, drawn, c.draws)
		}
		s := New(seed)
		if got := s.Below(c.n); got != want {
			t.Errorf("Below(%d) is %d, want %d", c.n, got, want)
		}
		checkDrawn(t, s, seed, drawn)
	}
}
