package fixed

import (
	"math"
	"math/big"
	"slices"
	"testing"

	"election/api"
)

const top = 1<<32 - 1

func toBig(a api.Nat) *big.Int {
	n := new(big.Int)
	for _, limb := range slices.Backward(a) {
		n.Lsh(n, 32)
		n.Or(n, new(big.Int).SetUint64(uint64(limb)))
	}
	return n
}

func bigScale(digits int) *big.Int {
	return new(big.Int).Exp(big.NewInt(10), big.NewInt(int64(digits)), nil)
}

// bigDivide returns a / b, rounded; b is not 0.
func bigDivide(a, b *big.Int, up bool) *big.Int {
	quotient, rest := new(big.Int).QuoRem(a, b, new(big.Int))
	if up && rest.Sign() != 0 {
		quotient.Add(quotient, big.NewInt(1))
	}
	return quotient
}

// check reports an error unless got is the normal form of want.
func check(t *testing.T, call string, got api.Nat, want *big.Int, args ...any) {
	t.Helper()
	if len(got) > 0 && got[len(got)-1] == 0 {
		t.Errorf("%s of %v: %v is not in normal form", call, args, got)
	}
	if toBig(got).Cmp(want) != 0 {
		t.Errorf("%s of %v: %v, want %v", call, args, toBig(got), want)
	}
}

func same(a, b api.Nat) bool { return slices.Equal(a, b) }

func sameRatio(a, b api.Ratio) bool {
	return a.Neg == b.Neg && same(a.Num, b.Num) && same(a.Den, b.Den)
}

func TestOf(t *testing.T) {
	for _, c := range []struct {
		n      uint64
		digits int
		want   api.Nat
	}{
		{3, 2, api.Nat{300}},
		{3, 0, api.Nat{3}},
		{0, 0, nil},
		{0, 6, nil},
		{1, 1, api.Nat{10}},
		{1, 6, api.Nat{1000000}},
		{4295, 6, api.Nat{4295000000 - 1<<32, 1}},
		{1 << 32, 0, api.Nat{0, 1}},
		{math.MaxUint64, 0, api.Nat{top, top}},
		// (2^64 - 1) * 10^6 is 999999 * 2^64 + 2^64 - 10^6.
		{math.MaxUint64, 6, api.Nat{1<<32 - 1000000, top, 999999}},
	} {
		if got := Of(c.n, c.digits); !same(got, c.want) {
			t.Errorf("Of(%d, %d) is %v, want %v", c.n, c.digits, got, c.want)
		}
	}
}

func TestMul(t *testing.T) {
	for _, c := range []struct {
		a, b     api.Nat
		digits   int
		down, up api.Nat
	}{
		{api.Nat{150}, api.Nat{33}, 2, api.Nat{49}, api.Nat{50}},
		{api.Nat{150}, api.Nat{200}, 2, api.Nat{300}, api.Nat{300}},
		{api.Nat{7}, api.Nat{8}, 0, api.Nat{56}, api.Nat{56}},
		{api.Nat{1}, api.Nat{1}, 6, nil, api.Nat{1}},
		{api.Nat{101}, api.Nat{1}, 2, api.Nat{1}, api.Nat{2}},
		{api.Nat{199}, api.Nat{1}, 2, api.Nat{1}, api.Nat{2}},
		{api.Nat{200}, api.Nat{1}, 2, api.Nat{2}, api.Nat{2}},
		{nil, nil, 3, nil, nil},
		{nil, api.Nat{5, 6}, 3, nil, nil},
		// Rounding up carries into a new limb.
		{api.Nat{top, 9}, api.Nat{1}, 1, api.Nat{top}, api.Nat{0, 1}},
		// Not in normal form.
		{api.Nat{0, 0}, api.Nat{5, 0}, 6, nil, nil},
		{api.Nat{150, 0}, api.Nat{33, 0, 0}, 2, api.Nat{49}, api.Nat{50}},
		{api.Nat{0, 1, 0}, api.Nat{10, 0}, 1, api.Nat{0, 1}, api.Nat{0, 1}},
	} {
		down, up := Mul(c.a, c.b, c.digits, false), Mul(c.a, c.b, c.digits, true)
		if !same(down, c.down) || !same(up, c.up) {
			t.Errorf("Mul(%v, %v, %d) is %v and %v, want %v and %v", c.a, c.b, c.digits, down, up, c.down, c.up)
		}
		down, up = Mul(c.b, c.a, c.digits, false), Mul(c.b, c.a, c.digits, true)
		if !same(down, c.down) || !same(up, c.up) {
			t.Errorf("Mul(%v, %v, %d) is %v and %v, want %v and %v", c.b, c.a, c.digits, down, up, c.down, c.up)
		}
	}
}

func TestDiv(t *testing.T) {
	for _, c := range []struct {
		a, b     api.Nat
		digits   int
		down, up api.Nat
	}{
		{api.Nat{100}, api.Nat{300}, 2, api.Nat{33}, api.Nat{34}},
		{api.Nat{200}, api.Nat{300}, 2, api.Nat{66}, api.Nat{67}},
		{api.Nat{600}, api.Nat{300}, 2, api.Nat{200}, api.Nat{200}},
		{api.Nat{7}, api.Nat{2}, 0, api.Nat{3}, api.Nat{4}},
		{api.Nat{8}, api.Nat{2}, 0, api.Nat{4}, api.Nat{4}},
		{api.Nat{1}, api.Nat{2000001}, 6, nil, api.Nat{1}},
		{api.Nat{7}, api.Nat{1}, 6, api.Nat{7000000}, api.Nat{7000000}},
		{nil, api.Nat{5}, 3, nil, nil},
		// Rounding up carries into a new limb.
		{api.Nat{top, 1}, api.Nat{2}, 0, api.Nat{top}, api.Nat{0, 1}},
		// Not in normal form.
		{api.Nat{0, 0}, api.Nat{5, 0}, 3, nil, nil},
		{api.Nat{100, 0}, api.Nat{300, 0, 0}, 2, api.Nat{33}, api.Nat{34}},
		{api.Nat{0, 0, 3, 0}, api.Nat{0, 0, 1, 0}, 1, api.Nat{30}, api.Nat{30}},
	} {
		down, downOk := Div(c.a, c.b, c.digits, false)
		up, upOk := Div(c.a, c.b, c.digits, true)
		if !downOk || !upOk || !same(down, c.down) || !same(up, c.up) {
			t.Errorf("Div(%v, %v, %d) is %v, %v and %v, %v, want %v and %v", c.a, c.b, c.digits, down, downOk, up, upOk, c.down, c.up)
		}
	}
}

func TestDivByZero(t *testing.T) {
	for _, zero := range []api.Nat{nil, {}, {0}, {0, 0, 0}} {
		for _, a := range []api.Nat{nil, {0}, {5}, {top, top, 0}} {
			for digits := range api.MaxDigits + 1 {
				for _, up := range []bool{false, true} {
					if got, ok := Div(a, zero, digits, up); got != nil || ok {
						t.Errorf("Div(%v, %v, %d, %v) is %v, %v, want nil, false", a, zero, digits, up, got, ok)
					}
				}
			}
		}
	}
}

func TestRatio(t *testing.T) {
	for _, c := range []struct {
		a      api.Nat
		digits int
		want   api.Ratio
	}{
		{api.Nat{150}, 2, api.Ratio{Num: api.Nat{3}, Den: api.Nat{2}}},
		{api.Nat{300}, 2, api.Ratio{Num: api.Nat{3}, Den: api.Nat{1}}},
		{api.Nat{7}, 0, api.Ratio{Num: api.Nat{7}, Den: api.Nat{1}}},
		{api.Nat{7}, 6, api.Ratio{Num: api.Nat{7}, Den: api.Nat{1000000}}},
		{api.Nat{0, 1}, 6, api.Ratio{Num: api.Nat{1 << 26}, Den: api.Nat{15625}}},
		{nil, 3, api.Ratio{Den: api.Nat{1}}},
		{nil, 0, api.Ratio{Den: api.Nat{1}}},
		// Not in normal form.
		{api.Nat{0, 0}, 3, api.Ratio{Den: api.Nat{1}}},
		{api.Nat{150, 0}, 2, api.Ratio{Num: api.Nat{3}, Den: api.Nat{2}}},
	} {
		if got := Ratio(c.a, c.digits); !sameRatio(got, c.want) {
			t.Errorf("Ratio(%v, %d) is %v, want %v", c.a, c.digits, got, c.want)
		}
	}
}

// TestDigitsOutOfRange has arguments with which every function has a result if the digits are in their range.
func TestDigitsOutOfRange(t *testing.T) {
	a := api.Nat{100}
	for _, digits := range []int{-1, -2, api.MaxDigits + 1, 8, 60, 61, 1 << 40, math.MinInt, math.MaxInt} {
		if got := Of(1, digits); got != nil {
			t.Errorf("Of(1, %d) is %v", digits, got)
		}
		for _, up := range []bool{false, true} {
			if got := Mul(a, a, digits, up); got != nil {
				t.Errorf("Mul(%v, %v, %d, %v) is %v", a, a, digits, up, got)
			}
			if got, ok := Div(a, a, digits, up); got != nil || ok {
				t.Errorf("Div(%v, %v, %d, %v) is %v, %v", a, a, digits, up, got, ok)
			}
			if got, ok := Div(a, nil, digits, up); got != nil || ok {
				t.Errorf("Div(%v, nil, %d, %v) is %v, %v", a, digits, up, got, ok)
			}
		}
		if got := Ratio(a, digits); got.Neg || got.Num != nil || got.Den != nil {
			t.Errorf("Ratio(%v, %d) is %v", a, digits, got)
		}
		if got := Text(a, digits); got != "" {
			t.Errorf("Text(%v, %d) is %q", a, digits, got)
		}
		for _, s := range []string{"", "0", "1", "0.1", "1.00", "1.0000000", "0.00000000"} {
			if got, ok := Parse(s, digits); got != nil || ok {
				t.Errorf("Parse(%q, %d) is %v, %v", s, digits, got, ok)
			}
		}
	}
}

// source yields limbs that look random; many are extreme, since carries go wrong there, and many are powers of 10, since divisions by the scale leave no rest there.
type source uint64

func (s *source) next() uint64 {
	*s = *s*6364136223846793005 + 1442695040888963407
	return uint64(*s) >> 33
}

// nat returns a Nat of this many limbs, which often is not in normal form.
func (s *source) nat(limbs int) api.Nat {
	usual := []uint32{0, 0, 1, 10, 1000, 1000000, 1000000000, top, top - 1, 1 << 31}
	var a api.Nat
	for range limbs {
		limb := uint32(s.next()<<16 ^ s.next())
		if n := s.next(); n%3 != 0 {
			limb = usual[n/3%uint64(len(usual))]
		}
		a = append(a, limb)
	}
	return a
}

// TestRandom compares all functions with math/big.
func TestRandom(t *testing.T) {
	s := source(1)
	for i := range 20000 {
		digits := i % (api.MaxDigits + 1)
		a, b := s.nat(int(s.next()%5)), s.nat(int(s.next()%4))
		n := s.next()<<33 ^ s.next()
		check(t, "Of", Of(n, digits), new(big.Int).Mul(new(big.Int).SetUint64(n), bigScale(digits)), n, digits)
		checkArithmetic(t, a, b, digits)
		checkRatio(t, a, digits)
		checkText(t, a, digits)
		if t.Failed() {
			return
		}
	}
}

func checkArithmetic(t *testing.T, a, b api.Nat, digits int) {
	t.Helper()
	x, y, one := toBig(a), toBig(b), bigScale(digits)
	product, dividend := new(big.Int).Mul(x, y), new(big.Int).Mul(x, one)
	for _, up := range []bool{false, true} {
		check(t, "Mul", Mul(a, b, digits, up), bigDivide(product, one, up), a, b, digits, up)
		got, ok := Div(a, b, digits, up)
		if ok != (y.Sign() != 0) || !ok && got != nil {
			t.Errorf("Div(%v, %v, %d, %v) is %v, %v", a, b, digits, up, got, ok)
		}
		if ok {
			check(t, "Div", got, bigDivide(dividend, y, up), a, b, digits, up)
		}
	}
}

func checkRatio(t *testing.T, a api.Nat, digits int) {
	t.Helper()
	got, want := Ratio(a, digits), new(big.Rat).SetFrac(toBig(a), bigScale(digits))
	if got.Neg {
		t.Errorf("Ratio(%v, %d) is negative", a, digits)
	}
	check(t, "Ratio, Num", got.Num, want.Num(), a, digits)
	check(t, "Ratio, Den", got.Den, want.Denom(), a, digits)
}
