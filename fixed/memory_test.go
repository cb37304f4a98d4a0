package fixed

import (
	"slices"
	"testing"

	"election/api"
)

// results returns all Nats of the results that the functions return for these arguments.
func results(a, b api.Nat, digits int) []api.Nat {
	down, _ := Div(a, b, digits, false)
	up, _ := Div(a, b, digits, true)
	parsed, _ := Parse(Text(a, digits), digits)
	number, again := Ratio(a, digits), Ratio(a, digits)
	return []api.Nat{
		Of(1, digits), Of(1, digits), Of(0, digits), down, up, parsed,
		Mul(a, b, digits, false), Mul(a, b, digits, true),
		number.Num, number.Den, again.Num, again.Den,
	}
}

// roomy returns a with spare capacity, and all the memory that it lies in.
func roomy(a api.Nat) (arg, memory api.Nat) {
	memory = append(slices.Clone(a), 11, 12, 13, 14)
	return memory[:len(a)], memory
}

func cloneAll(list []api.Nat) []api.Nat {
	var clones []api.Nat
	for _, a := range list {
		clones = append(clones, slices.Clone(a))
	}
	return clones
}

// TestMemory checks that arguments are not changed, spare capacity included, and that results share memory neither with them nor with each other.
func TestMemory(t *testing.T) {
	numbers := []api.Nat{nil, {0}, {1}, {100}, {5, 0}, {1000000}, {top, top}, {0, 0, 9}, {3, 4, 5, 0, 0}}
	for digits := -1; digits <= api.MaxDigits+1; digits++ {
		for _, x := range numbers {
			for _, y := range numbers {
				a, memoryA := roomy(x)
				b, memoryB := roomy(y)
				beforeA, beforeB := slices.Clone(memoryA), slices.Clone(memoryB)
				got := results(a, b, digits)
				if !same(memoryA, beforeA) || !same(memoryB, beforeB) {
					t.Fatalf("%v and %v became %v and %v", beforeA, beforeB, memoryA, memoryB)
				}
				checkSeparate(t, got, memoryA, memoryB)
			}
		}
	}
}

// checkSeparate overwrites each result in turn, with its spare capacity, and checks that nothing else changes.
func checkSeparate(t *testing.T, got []api.Nat, memoryA, memoryB api.Nat) {
	t.Helper()
	all := append(slices.Clone(got), memoryA, memoryB)
	for i, result := range got {
		before := cloneAll(all)
		spare := result[:cap(result)]
		for j := range spare {
			spare[j] = ^spare[j]
		}
		for j, other := range all {
			if j != i && !same(other, before[j]) {
				t.Fatalf("result %d shares memory with %d: %v", i, j, before)
			}
		}
	}
}

// TestSameArguments passes one slice for both arguments.
func TestSameArguments(t *testing.T) {
	for _, a := range []api.Nat{{5}, {0, 7, 0}, {top, top, top}} {
		for digits := range api.MaxDigits + 1 {
			checkArithmetic(t, a, a, digits)
		}
	}
}
