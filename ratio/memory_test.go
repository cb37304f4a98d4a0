package ratio

import (
	"slices"
	"testing"

	"election/api"
)

// results returns all Nats of the results that the functions return for these arguments.
func results(a, b api.Ratio) []api.Nat {
	quotient, _ := Div(a, b)
	parsed, _ := Parse(Text(a))
	floor, _ := Floor(a)
	Cmp(a, b)
	Valid(a)
	all := []api.Nat{floor}
	for _, r := range []api.Ratio{
		Make(a.Neg, a.Num, b.Num), Make(b.Neg, a.Num, a.Num),
		Add(a, b), Sub(a, b), Mul(a, b), quotient, Min(a, b), Max(a, b), parsed,
		Of(3), Of(3), Of(0), Of(0), Frac(1, 0), Frac(1, 0),
	} {
		all = append(all, r.Num, r.Den)
	}
	return all
}

// roomy returns a with spare capacity, and all the memory that it lies in.
func roomy(a api.Nat) (arg, memory api.Nat) {
	memory = append(slices.Clone(a), 11, 12, 13, 14)
	return memory[:len(a)], memory
}

func roomyRatio(a api.Ratio) (arg api.Ratio, num, den api.Nat) {
	arg.Neg = a.Neg
	arg.Num, num = roomy(a.Num)
	arg.Den, den = roomy(a.Den)
	return arg, num, den
}

func cloneAll(list []api.Nat) []api.Nat {
	var clones []api.Nat
	for _, a := range list {
		clones = append(clones, slices.Clone(a))
	}
	return clones
}

// TestMemory checks that arguments are not changed, spare capacity included, and that results share memory neither with them nor with each other.
func TestMemory(t *testing.T) {
	s := source(2)
	numbers := append(zeros(), Of(1), Of(-1), Frac(3, 4), api.Ratio{Num: api.Nat{6, 0}, Den: api.Nat{4, 0}}, s.ratio(), s.ratio())
	for _, x := range numbers {
		for _, y := range numbers {
			a, numA, denA := roomyRatio(x)
			b, numB, denB := roomyRatio(y)
			memory := []api.Nat{numA, denA, numB, denB}
			before := cloneAll(memory)
			got := results(a, b)
			if !slices.EqualFunc(memory, before, slices.Equal[api.Nat]) {
				t.Fatalf("%v became %v", before, memory)
			}
			checkSeparate(t, got, memory)
		}
	}
}

// checkSeparate overwrites each result in turn, with its spare capacity, and checks that nothing else changes.
func checkSeparate(t *testing.T, got, memory []api.Nat) {
	t.Helper()
	all := append(slices.Clone(got), memory...)
	for i, result := range got {
		before := cloneAll(all)
		spare := result[:cap(result)]
		for j := range spare {
			spare[j] = ^spare[j]
		}
		for j, other := range all {
			if j != i && !slices.Equal(other, before[j]) {
				t.Fatalf("result %d shares memory with %d: %v", i, j, before)
			}
		}
	}
}

// TestSameArguments passes one Ratio for both arguments, and one slice for both of its fields.
func TestSameArguments(t *testing.T) {
	limbs := api.Nat{5, 6, 0}
	for _, a := range []api.Ratio{Of(7), Frac(-2, 3), {Num: limbs, Den: limbs}} {
		check(t, "Sub", Sub(a, a), toRat(Of(0)), a)
		check(t, "Add", Add(a, a), toRat(Mul(a, Of(2))), a)
		check(t, "Min", Min(a, a), toRat(a), a)
		if got, ok := Div(a, a); !ok || !same(got, Of(1)) {
			t.Errorf("Div(%v, %v) is %v, %v", a, a, got, ok)
		}
	}
}
