package ratio

import (
	"math"
	"math/big"
	"slices"
	"strings"
	"testing"

	"election/api"
)

const top = 1<<32 - 1

func toInt(a api.Nat) *big.Int {
	n := new(big.Int)
	for _, limb := range slices.Backward(a) {
		n.Lsh(n, 32)
		n.Or(n, new(big.Int).SetUint64(uint64(limb)))
	}
	return n
}

// toRat returns what a denotes.
func toRat(a api.Ratio) *big.Rat {
	den := toInt(a.Den)
	if den.Sign() == 0 {
		return new(big.Rat)
	}
	value := new(big.Rat).SetFrac(toInt(a.Num), den)
	if a.Neg {
		value.Neg(value)
	}
	return value
}

func fromInt(n *big.Int) api.Nat {
	var a api.Nat
	for rest := new(big.Int).Abs(n); rest.Sign() != 0; rest.Rsh(rest, 32) {
		a = append(a, uint32(new(big.Int).And(rest, big.NewInt(top)).Uint64()))
	}
	return a
}

// fromRat returns the normal form of a number: big.Rat keeps its numbers reduced, with 0 as 0/1.
func fromRat(value *big.Rat) api.Ratio {
	return api.Ratio{Neg: value.Sign() < 0, Num: fromInt(value.Num()), Den: fromInt(value.Denom())}
}

func same(a, b api.Ratio) bool {
	return a.Neg == b.Neg && slices.Equal(a.Num, b.Num) && slices.Equal(a.Den, b.Den)
}

func isZeroRatio(a api.Ratio) bool { return !a.Neg && a.Num == nil && a.Den == nil }

// fields returns the Ratio with exactly these fields, which Make would change to the normal form.
func fields(neg bool, num, den api.Nat) api.Ratio {
	return api.Ratio{Neg: neg, Num: num, Den: den}
}

// check reports an error unless got is the normal form of want.
func check(t *testing.T, call string, got api.Ratio, want *big.Rat, args ...any) {
	t.Helper()
	if !same(got, fromRat(want)) {
		t.Errorf("%s of %v: %v, want %v", call, args, got, fromRat(want))
	}
}

func TestMake(t *testing.T) {
	zero := fields(false, nil, api.Nat{1})
	for _, c := range []struct{ a, want api.Ratio }{
		{fields(false, api.Nat{1}, api.Nat{2}), fields(false, api.Nat{1}, api.Nat{2})},
		{fields(true, api.Nat{3}, api.Nat{1}), fields(true, api.Nat{3}, api.Nat{1})},
		{fields(false, api.Nat{0, 3}, api.Nat{3, 0, 5}), fields(false, api.Nat{0, 3}, api.Nat{3, 0, 5})},
		// A common divisor.
		{fields(false, api.Nat{6}, api.Nat{4}), fields(false, api.Nat{3}, api.Nat{2})},
		{fields(true, api.Nat{5}, api.Nat{5}), fields(true, api.Nat{1}, api.Nat{1})},
		{fields(false, api.Nat{0, 0, 9}, api.Nat{0, 6}), fields(false, api.Nat{1 << 31, 1}, api.Nat{1})},
		// Zero limbs at the end.
		{fields(false, api.Nat{1, 0}, api.Nat{2}), fields(false, api.Nat{1}, api.Nat{2})},
		{fields(true, api.Nat{1}, api.Nat{2, 0, 0}), fields(true, api.Nat{1}, api.Nat{2})},
		{fields(true, api.Nat{6, 0}, api.Nat{0, 4, 0}), fields(true, api.Nat{3}, api.Nat{0, 2})},
		// 0, in all its forms.
		{zero, zero},
		{fields(false, nil, nil), zero},
		{fields(true, nil, nil), zero},
		{fields(true, nil, api.Nat{1}), zero},
		{fields(true, api.Nat{0, 0}, api.Nat{7}), zero},
		{fields(false, nil, api.Nat{7, 8}), zero},
		{fields(false, api.Nat{5}, nil), zero},
		{fields(true, api.Nat{5}, api.Nat{0, 0}), zero},
		{fields(true, api.Nat{0}, api.Nat{0}), zero},
	} {
		if got := Make(c.a.Neg, c.a.Num, c.a.Den); !same(got, c.want) {
			t.Errorf("Make of %v is %v, want %v", c.a, got, c.want)
		}
	}
}

func TestOf(t *testing.T) {
	for _, c := range []struct {
		n    int
		want api.Ratio
	}{
		{0, fields(false, nil, api.Nat{1})},
		{1, fields(false, api.Nat{1}, api.Nat{1})},
		{-1, fields(true, api.Nat{1}, api.Nat{1})},
		{1 << 32, fields(false, api.Nat{0, 1}, api.Nat{1})},
		{-top, fields(true, api.Nat{top}, api.Nat{1})},
		{math.MaxInt, fields(false, api.Nat{top, 1<<31 - 1}, api.Nat{1})},
		{-math.MaxInt, fields(true, api.Nat{top, 1<<31 - 1}, api.Nat{1})},
		{math.MinInt, fields(true, api.Nat{0, 1 << 31}, api.Nat{1})},
	} {
		if got := Of(c.n); !same(got, c.want) {
			t.Errorf("Of(%d) is %v, want %v", c.n, got, c.want)
		}
	}
}

func TestFrac(t *testing.T) {
	for _, c := range []struct {
		a, b int
		want api.Ratio
	}{
		{6, -4, fields(true, api.Nat{3}, api.Nat{2})},
		{-6, 4, fields(true, api.Nat{3}, api.Nat{2})},
		{-6, -4, fields(false, api.Nat{3}, api.Nat{2})},
		{8, 4, fields(false, api.Nat{2}, api.Nat{1})},
		{0, 3, fields(false, nil, api.Nat{1})},
		{0, -3, fields(false, nil, api.Nat{1})},
		{0, 0, fields(false, nil, api.Nat{1})},
		{5, 0, fields(false, nil, api.Nat{1})},
		{-5, 0, fields(false, nil, api.Nat{1})},
		{math.MinInt, 0, fields(false, nil, api.Nat{1})},
		{0, math.MinInt, fields(false, nil, api.Nat{1})},
		{math.MinInt, 1, fields(true, api.Nat{0, 1 << 31}, api.Nat{1})},
		{math.MinInt, -1, fields(false, api.Nat{0, 1 << 31}, api.Nat{1})},
		{math.MinInt, math.MinInt, fields(false, api.Nat{1}, api.Nat{1})},
		{math.MinInt, math.MaxInt, fields(true, api.Nat{0, 1 << 31}, api.Nat{top, 1<<31 - 1})},
		{3, math.MinInt, fields(true, api.Nat{3}, api.Nat{0, 1 << 31})},
		{-6, math.MinInt, fields(false, api.Nat{3}, api.Nat{0, 1 << 30})},
	} {
		if got := Frac(c.a, c.b); !same(got, c.want) {
			t.Errorf("Frac(%d, %d) is %v, want %v", c.a, c.b, got, c.want)
		}
	}
}

func TestValid(t *testing.T) {
	for _, c := range []struct {
		a    api.Ratio
		want bool
	}{
		{fields(false, nil, api.Nat{1}), true},
		{fields(false, api.Nat{}, api.Nat{1}), true},
		{fields(true, api.Nat{3}, api.Nat{1}), true},
		{fields(false, api.Nat{3}, api.Nat{2}), true},
		{fields(false, api.Nat{0, 3}, api.Nat{7, 0, 7}), true},
		{fields(true, nil, api.Nat{1}), false},
		{fields(false, nil, api.Nat{2}), false},
		{fields(false, api.Nat{0}, api.Nat{1}), false},
		{fields(false, nil, api.Nat{1, 0}), false},
		{fields(false, nil, nil), false},
		{fields(false, api.Nat{3}, nil), false},
		{fields(true, api.Nat{3}, api.Nat{0}), false},
		{fields(false, api.Nat{3, 0}, api.Nat{2}), false},
		{fields(false, api.Nat{3}, api.Nat{2, 0}), false},
		{fields(false, api.Nat{2}, api.Nat{4}), false},
		{fields(false, api.Nat{5}, api.Nat{5}), false},
		{fields(false, api.Nat{0, 3}, api.Nat{0, 2}), false},
	} {
		if got := Valid(c.a); got != c.want {
			t.Errorf("Valid(%v) is %v", c.a, got)
		}
	}
}

func TestArithmetic(t *testing.T) {
	half, third := Frac(1, 2), Frac(1, 3)
	for _, c := range []struct {
		call      string
		got, want api.Ratio
	}{
		{"1/2 + 1/3", Add(half, third), fields(false, api.Nat{5}, api.Nat{6})},
		{"1/2 + 1/2", Add(half, half), fields(false, api.Nat{1}, api.Nat{1})},
		{"-1/2 + 1/2", Add(Frac(-1, 2), half), fields(false, nil, api.Nat{1})},
		{"-1/2 + 1/3", Add(Frac(-1, 2), third), fields(true, api.Nat{1}, api.Nat{6})},
		{"1/2 + -1/3", Add(half, Frac(-1, 3)), fields(false, api.Nat{1}, api.Nat{6})},
		{"-1/2 + -1/3", Add(Frac(-1, 2), Frac(-1, 3)), fields(true, api.Nat{5}, api.Nat{6})},
		{"1/2 - 1/3", Sub(half, third), fields(false, api.Nat{1}, api.Nat{6})},
		{"1/3 - 1/2", Sub(third, half), fields(true, api.Nat{1}, api.Nat{6})},
		{"1/2 - 1/2", Sub(half, half), fields(false, nil, api.Nat{1})},
		{"-1/2 - -1/2", Sub(Frac(-1, 2), Frac(-1, 2)), fields(false, nil, api.Nat{1})},
		{"0 - 1/2", Sub(Of(0), half), fields(true, api.Nat{1}, api.Nat{2})},
		{"-2/3 * 3/4", Mul(Frac(-2, 3), Frac(3, 4)), fields(true, api.Nat{1}, api.Nat{2})},
		{"-2/3 * -3/2", Mul(Frac(-2, 3), Frac(-3, 2)), fields(false, api.Nat{1}, api.Nat{1})},
		{"-2/3 * 0", Mul(Frac(-2, 3), Of(0)), fields(false, nil, api.Nat{1})},
	} {
		if !same(c.got, c.want) {
			t.Errorf("%s is %v, want %v", c.call, c.got, c.want)
		}
	}
}

func TestDiv(t *testing.T) {
	for _, c := range []struct{ a, b, want api.Ratio }{
		{Frac(1, 3), Frac(-2, 3), fields(true, api.Nat{1}, api.Nat{2})},
		{Frac(-1, 3), Frac(-2, 3), fields(false, api.Nat{1}, api.Nat{2})},
		{Frac(-3, 4), Of(3), fields(true, api.Nat{1}, api.Nat{4})},
		{Of(0), Of(-3), fields(false, nil, api.Nat{1})},
		{fields(true, api.Nat{4}, nil), Frac(1, 2), fields(false, nil, api.Nat{1})},
		{fields(false, api.Nat{4, 0}, api.Nat{6}), fields(true, api.Nat{8}, api.Nat{6, 0}), fields(true, api.Nat{1}, api.Nat{2})},
	} {
		if got, ok := Div(c.a, c.b); !ok || !same(got, c.want) {
			t.Errorf("Div(%v, %v) is %v, %v, want %v", c.a, c.b, got, ok, c.want)
		}
	}
	for _, zero := range zeros() {
		for _, a := range []api.Ratio{Of(1), Of(0), Frac(-3, 7), {}} {
			if got, ok := Div(a, zero); ok || !isZeroRatio(got) {
				t.Errorf("Div(%v, %v) is %v, %v, want the zero Ratio and false", a, zero, got, ok)
			}
		}
	}
}

// zeros returns 0 in forms that are not all normal.
func zeros() []api.Ratio {
	return []api.Ratio{
		Of(0), {}, {Neg: true},
		{Num: api.Nat{0, 0}, Den: api.Nat{3}},
		{Neg: true, Den: api.Nat{1, 0}},
		{Num: api.Nat{5}},
		{Neg: true, Num: api.Nat{5, 6}, Den: api.Nat{0, 0}},
	}
}

func TestZeros(t *testing.T) {
	half := Frac(-1, 2)
	for _, zero := range zeros() {
		for call, got := range map[string]api.Ratio{
			"zero + half": Add(zero, half), "half + zero": Add(half, zero), "half - zero": Sub(half, zero),
			"Min(half, zero)": Min(half, zero), "Min(zero, half)": Min(zero, half),
		} {
			check(t, call, got, big.NewRat(-1, 2), zero)
		}
		check(t, "zero - half", Sub(zero, half), big.NewRat(1, 2), zero)
		for call, got := range map[string]api.Ratio{
			"zero * half": Mul(zero, half), "half * zero": Mul(half, zero),
			"Max(half, zero)": Max(half, zero), "Max(zero, half)": Max(zero, half),
		} {
			check(t, call, got, new(big.Rat), zero)
		}
		for _, other := range zeros() {
			if got := Cmp(zero, other); got != 0 {
				t.Errorf("Cmp(%v, %v) is %d", zero, other, got)
			}
			check(t, "zero + zero", Add(zero, other), new(big.Rat), zero, other)
			check(t, "zero - zero", Sub(zero, other), new(big.Rat), zero, other)
		}
	}
}

func TestOrder(t *testing.T) {
	ascending := []api.Ratio{
		Of(math.MinInt), Of(-2), Frac(-3, 2), Frac(-1, 2), Frac(-1, 3), Of(0),
		Frac(1, math.MaxInt), Frac(1, 3), Frac(1, 2), Of(1), Frac(math.MaxInt, 2),
	}
	for i, a := range ascending {
		for k, b := range ascending {
			want := 0
			switch {
			case i < k:
				want = -1
			case i > k:
				want = 1
			}
			if got := Cmp(a, b); got != want {
				t.Errorf("Cmp(%v, %v) is %d, want %d", a, b, got, want)
			}
			if got := Min(a, b); !same(got, ascending[min(i, k)]) {
				t.Errorf("Min(%v, %v) is %v", a, b, got)
			}
			if got := Max(a, b); !same(got, ascending[max(i, k)]) {
				t.Errorf("Max(%v, %v) is %v", a, b, got)
			}
		}
	}
}

// TestOrderForms has arguments that are equal, and not in normal form.
func TestOrderForms(t *testing.T) {
	forms := []api.Ratio{
		Frac(-3, 2),
		fields(true, api.Nat{6}, api.Nat{4}),
		fields(true, api.Nat{3, 0}, api.Nat{2, 0}),
		fields(true, api.Nat{0, 3}, api.Nat{0, 2}),
	}
	for _, a := range forms {
		for _, b := range forms {
			if got := Cmp(a, b); got != 0 {
				t.Errorf("Cmp(%v, %v) is %d", a, b, got)
			}
			check(t, "Min", Min(a, b), big.NewRat(-3, 2), a, b)
			check(t, "Max", Max(a, b), big.NewRat(-3, 2), a, b)
		}
	}
}

func TestFloor(t *testing.T) {
	for _, c := range []struct {
		a    api.Ratio
		want api.Nat
		ok   bool
	}{
		{Frac(7, 2), api.Nat{3}, true},
		{Of(4), api.Nat{4}, true},
		{Frac(1, 2), nil, true},
		{Of(0), nil, true},
		{fields(false, api.Nat{0, 0, 9, 0}, api.Nat{0, 2, 0}), api.Nat{1 << 31, 4}, true},
		{fields(true, nil, api.Nat{1}), nil, true},
		{fields(true, api.Nat{0}, api.Nat{3}), nil, true},
		{fields(false, api.Nat{5}, nil), nil, true},
		{fields(true, api.Nat{5}, nil), nil, true},
		{Frac(-1, 2), nil, false},
		{Of(-4), nil, false},
		{Frac(-7, 2), nil, false},
		{fields(true, api.Nat{8, 0}, api.Nat{2, 0}), nil, false},
	} {
		got, ok := Floor(c.a)
		if ok != c.ok || !slices.Equal(got, c.want) || !ok && got != nil {
			t.Errorf("Floor(%v) is %v, %v, want %v, %v", c.a, got, ok, c.want, c.ok)
		}
	}
}

func TestText(t *testing.T) {
	for _, c := range []struct {
		a    api.Ratio
		want string
	}{
		{Frac(6, -4), "-3/2"},
		{Frac(5, 6), "5/6"},
		{Of(12), "12"},
		{Of(-12), "-12"},
		{Of(0), "0"},
		{Of(math.MinInt), "-9223372036854775808"},
		{fields(true, api.Nat{7}, api.Nat{0, 0, 1}), "-7/18446744073709551616"},
		{fields(true, api.Nat{6, 0}, api.Nat{4, 0}), "-3/2"},
		{fields(false, api.Nat{6}, api.Nat{3}), "2"},
		{fields(true, nil, api.Nat{1}), "0"},
		{fields(true, api.Nat{3}, api.Nat{0}), "0"},
		{api.Ratio{}, "0"},
	} {
		if got := Text(c.a); got != c.want {
			t.Errorf("Text(%v) is %q, want %q", c.a, got, c.want)
		}
	}
}

func TestParse(t *testing.T) {
	for _, c := range []struct {
		s    string
		want api.Ratio
	}{
		{"0", fields(false, nil, api.Nat{1})},
		{"1", fields(false, api.Nat{1}, api.Nat{1})},
		{"-1", fields(true, api.Nat{1}, api.Nat{1})},
		{"5/6", fields(false, api.Nat{5}, api.Nat{6})},
		{"-3/2", fields(true, api.Nat{3}, api.Nat{2})},
		{"1/10", fields(false, api.Nat{1}, api.Nat{10})},
		{"-7/18446744073709551616", fields(true, api.Nat{7}, api.Nat{0, 0, 1})},
		{"18446744073709551616/7", fields(false, api.Nat{0, 0, 1}, api.Nat{7})},
	} {
		if got, ok := Parse(c.s); !ok || !same(got, c.want) {
			t.Errorf("Parse(%q) is %v, %v, want %v", c.s, got, ok, c.want)
		}
	}
}

func TestParseInvalid(t *testing.T) {
	for _, s := range []string{
		"", "-", "/", "-/", "//", "3/", "-3/", "/2", "-/2", "/1",
		"-0", "0/1", "-0/1", "0/2", "1/0", "0/0", "-1/0",
		"1/1", "-1/1", "3/1", "2/4", "4/2", "-6/4", "5/5", "18446744073709551616/2",
		"01", "-01", "00", "01/2", "1/02", "1/01",
		"+1", "+1/2", "1/+2", "1/-2", "-1/-2", "--1", "-+1", "1-", "1/2-",
		"1/2/3", "1/2/", "/1/2", "1//2",
		" 1", "1 ", "1 /2", "1/ 2", "1/2\n", "1.5", "1e3", "0x1", "1_0", "a", "1/a", "a/1", "1:2", "1\\2",
		"1\x00", "\xff", "1/\xff", "٣", "1/٣",
		strings.Repeat("1", 100) + "/" + strings.Repeat("1", 50),
	} {
		if got, ok := Parse(s); ok || !isZeroRatio(got) {
			t.Errorf("Parse(%q) is %v, %v, want the zero Ratio and false", s, got, ok)
		}
	}
}

// source yields numbers that look random; many are extreme or share a divisor.
type source uint64

func (s *source) next() uint64 {
	*s = *s*6364136223846793005 + 1442695040888963407
	return uint64(*s) >> 33
}

func (s *source) nat(limbs int) api.Nat {
	usual := []uint32{0, 0, 1, 2, 6, 30, top, 1 << 31}
	var a api.Nat
	for range limbs {
		limb := uint32(s.next()<<16 ^ s.next())
		if n := s.next(); n%3 != 0 {
			limb = usual[n/3%uint64(len(usual))]
		}
		a = append(a, limb)
	}
	return a
}

// ratio returns a Ratio that often is not in normal form.
func (s *source) ratio() api.Ratio {
	return api.Ratio{Neg: s.next()%2 == 0, Num: s.nat(int(s.next() % 4)), Den: s.nat(int(s.next() % 4))}
}

// TestRandom compares all functions with math/big.
func TestRandom(t *testing.T) {
	s := source(1)
	for range 20000 {
		a, b := s.ratio(), s.ratio()
		x, y := toRat(a), toRat(b)
		check(t, "Make", Make(a.Neg, a.Num, a.Den), x, a)
		check(t, "Add", Add(a, b), new(big.Rat).Add(x, y), a, b)
		check(t, "Sub", Sub(a, b), new(big.Rat).Sub(x, y), a, b)
		check(t, "Mul", Mul(a, b), new(big.Rat).Mul(x, y), a, b)
		checkDiv(t, a, b)
		checkOrder(t, a, b)
		checkFloor(t, a)
		checkText(t, a)
		if got := Valid(a); got != same(a, fromRat(x)) {
			t.Errorf("Valid(%v) is %v", a, got)
		}
		if t.Failed() {
			return
		}
	}
}

func checkDiv(t *testing.T, a, b api.Ratio) {
	t.Helper()
	got, ok := Div(a, b)
	if ok != (toRat(b).Sign() != 0) {
		t.Errorf("Div(%v, %v) is %v", a, b, ok)
	}
	if ok {
		check(t, "Div", got, new(big.Rat).Quo(toRat(a), toRat(b)), a, b)
	}
}

func checkOrder(t *testing.T, a, b api.Ratio) {
	t.Helper()
	x, y := toRat(a), toRat(b)
	if got := Cmp(a, b); got != x.Cmp(y) {
		t.Errorf("Cmp(%v, %v) is %d", a, b, got)
	}
	if x.Cmp(y) > 0 {
		x, y = y, x
	}
	check(t, "Min", Min(a, b), x, a, b)
	check(t, "Max", Max(a, b), y, a, b)
}

func checkFloor(t *testing.T, a api.Ratio) {
	t.Helper()
	got, ok := Floor(a)
	x := toRat(a)
	if ok != (x.Sign() >= 0) {
		t.Errorf("Floor(%v) is %v", a, ok)
	}
	if want := new(big.Int).Quo(x.Num(), x.Denom()); ok && !slices.Equal(got, fromInt(want)) {
		t.Errorf("Floor(%v) is %v, want %v", a, got, want)
	}
}

func checkText(t *testing.T, a api.Ratio) {
	t.Helper()
	text := Text(a)
	if want := toRat(a).RatString(); text != want {
		t.Errorf("Text(%v) is %q, want %q", a, text, want)
	}
	got, ok := Parse(text)
	if !ok {
		t.Errorf("Parse(%q) is false", text)
	}
	check(t, "Parse", got, toRat(a), text)
}
