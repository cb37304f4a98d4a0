package random

import (
	"crypto/sha256"
	"encoding/binary"
	"math"
	"math/big"
	"strings"
	"testing"
)

// wantWord computes word number k of a seed.
func wantWord(seed string, k uint64) uint64 {
	b := binary.BigEndian.AppendUint32(nil, uint32(len(seed)))
	b = append(b, seed...)
	b = binary.BigEndian.AppendUint32(b, 8)
	d := sha256.Sum256(binary.BigEndian.AppendUint64(b, k))
	return binary.BigEndian.Uint64(d[:])
}

// wantRest computes 2^64 mod n.
func wantRest(n int) uint64 {
	power := new(big.Int).Lsh(big.NewInt(1), 64)
	return power.Mod(power, big.NewInt(int64(n))).Uint64()
}

// wantBelow computes Below of a source that has drawn k words, and the number of words that it has drawn then.
func wantBelow(seed string, k uint64, n int) (int, uint64) {
	for count := 1; ; count++ {
		x := wantWord(seed, k)
		k++
		if count == 16 || math.MaxUint64-x >= wantRest(n) {
			return int(x % uint64(n)), k
		}
	}
}

// checkDrawn checks how many words of its seed s has drawn, by the next word.
func checkDrawn(t *testing.T, s *Source, seed string, drawn uint64) {
	t.Helper()
	if got, want := s.Word(), wantWord(seed, drawn); got != want {
		t.Errorf("the next word of %.20q is %d, want word %d, which is %d", seed, got, drawn, want)
	}
}

func seeds() []string {
	return []string{
		"", "seed", "a", "b", "ab", "a\x00", "\x00", "\xff\xfe", "0", " ", "été",
		"20230107-" + strings.Repeat("7", 20), strings.Repeat("x", 255), strings.Repeat("x", 256), strings.Repeat("long ", 20000),
	}
}

func TestWord(t *testing.T) {
	for _, seed := range seeds() {
		s := New(seed)
		for k := range uint64(20) {
			if got, want := s.Word(), wantWord(seed, k); got != want {
				t.Fatalf("word %d of %.20q is %d, want %d", k, seed, got, want)
			}
		}
	}
}

// TestWordKnown has words that were computed with another program (sha256sum).
func TestWordKnown(t *testing.T) {
	for _, c := range []struct {
		seed string
		want []uint64
	}{
		{"", []uint64{0x84ebb52e48e0d275, 0xe1204f7fab020db1}},
		{"seed", []uint64{0xcfef503a971c3f18, 0x902370f205cbf1f7, 0x79b65ac678290d20}},
	} {
		s := New(c.seed)
		for k, want := range c.want {
			if got := s.Word(); got != want {
				t.Errorf("word %d of %q is %#x, want %#x", k, c.seed, got, want)
			}
		}
	}
}

// TestWordNumbers has numbers of words in which each of the eight bytes counts.
func TestWordNumbers(t *testing.T) {
	s := New("many")
	for k := range uint64(1000) {
		if got, want := s.Word(), wantWord("many", k); got != want {
			t.Fatalf("word %d is %d, want %d", k, got, want)
		}
	}
	for _, k := range []uint64{255, 256, 65535, 65536, 1<<24 - 1, 1<<32 - 1, 1 << 32, 1<<56 - 1, 0x0102030405060708} {
		s := &Source{seed: "many", drawn: k}
		checkDrawn(t, s, "many", k)
		checkDrawn(t, s, "many", k+1)
	}
}

// TestSourcesAreIndependent draws from several sources in turn, with equal and with different seeds.
func TestSourcesAreIndependent(t *testing.T) {
	a, same, other := New("a"), New("a"), New("b")
	for k := range uint64(10) {
		checkDrawn(t, a, "a", 2*k)
		checkDrawn(t, other, "b", k)
		checkDrawn(t, a, "a", 2*k+1)
		checkDrawn(t, same, "a", k)
	}
	if a == same {
		t.Error("New returned the same source twice")
	}
}

func TestZeroSource(t *testing.T) {
	var s Source
	for k := range uint64(3) {
		checkDrawn(t, &s, "", k)
	}
}

func TestNilSource(t *testing.T) {
	var none *Source
	if got := none.Word(); got != 0 {
		t.Error("Word is", got)
	}
	for _, n := range []int{math.MinInt, -1, 0, 1, 2, 1000, 1025, 1 << 31, 1<<31 + 1, math.MaxInt} {
		if got := none.Below(n); got != 0 {
			t.Errorf("Below(%d) is %d", n, got)
		}
		if got := none.Perm(n); got != nil {
			t.Errorf("Perm(%d) is %v", n, got)
		}
	}
}
