package nat

import (
	"math"
	"math/big"
	"slices"
	"strings"
	"testing"

	"election/api"
)

const top = 1<<32 - 1

// source yields limbs that look random; many are extreme, since carries and the estimates of a division go wrong there.
type source uint64

func (s *source) next() uint64 {
	*s = *s*6364136223846793005 + 1442695040888963407
	return uint64(*s) >> 33
}

func (s *source) limb() uint32 {
	extremes := []uint32{0, 0, 1, 1 << 31, 1<<31 - 1, top, top, top - 1}
	if n := s.next(); n%3 != 0 {
		return extremes[n/3%uint64(len(extremes))]
	}
	return uint32(s.next()<<16 ^ s.next())
}

// nat returns a Nat of this many limbs, which often is not in normal form.
func (s *source) nat(limbs int) api.Nat {
	var a api.Nat
	for range limbs {
		a = append(a, s.limb())
	}
	return a
}

func toBig(a api.Nat) *big.Int {
	n := new(big.Int)
	for _, limb := range slices.Backward(a) {
		n.Lsh(n, 32)
		n.Or(n, new(big.Int).SetUint64(uint64(limb)))
	}
	return n
}

// check reports an error unless got is the normal form of want.
func check(t *testing.T, call string, got api.Nat, want *big.Int, args ...any) {
	t.Helper()
	if len(got) > 0 && got[len(got)-1] == 0 {
		t.Errorf("%s of %v: %v is not in normal form", call, args, got)
	}
	if toBig(got).Cmp(want) != 0 {
		t.Errorf("%s of %v: %v, want %v", call, args, toBig(got), want)
	}
}

func same(a, b api.Nat) bool { return slices.Equal(a, b) }

func TestNorm(t *testing.T) {
	for _, c := range []struct{ a, want api.Nat }{
		{nil, nil},
		{api.Nat{}, nil},
		{api.Nat{0}, nil},
		{api.Nat{0, 0, 0}, nil},
		{api.Nat{7}, api.Nat{7}},
		{api.Nat{7, 0, 0}, api.Nat{7}},
		{api.Nat{0, 7}, api.Nat{0, 7}},
		{api.Nat{0, 0, 7, 0}, api.Nat{0, 0, 7}},
	} {
		if got := Norm(c.a); !same(got, c.want) {
			t.Errorf("Norm(%v) is %v, want %v", c.a, got, c.want)
		}
	}
}

func TestOf(t *testing.T) {
	for _, c := range []struct {
		n    uint64
		want api.Nat
	}{
		{0, nil},
		{1, api.Nat{1}},
		{top, api.Nat{top}},
		{1 << 32, api.Nat{0, 1}},
		{1<<32 + 5, api.Nat{5, 1}},
		{math.MaxUint64, api.Nat{top, top}},
	} {
		if got := Of(c.n); !same(got, c.want) {
			t.Errorf("Of(%d) is %v, want %v", c.n, got, c.want)
		}
	}
}

func TestUint64(t *testing.T) {
	for _, c := range []struct {
		a    api.Nat
		want uint64
		ok   bool
	}{
		{nil, 0, true},
		{api.Nat{0, 0, 0}, 0, true},
		{api.Nat{9}, 9, true},
		{api.Nat{0, 1}, 1 << 32, true},
		{api.Nat{5, 3, 0, 0}, 3<<32 + 5, true},
		{api.Nat{top, top}, math.MaxUint64, true},
		{api.Nat{0, 0, 1}, 0, false},
		{api.Nat{1, 2, 3, 4, 0}, 0, false},
	} {
		if got, ok := Uint64(c.a); got != c.want || ok != c.ok {
			t.Errorf("Uint64(%v) is %d, %v, want %d, %v", c.a, got, ok, c.want, c.ok)
		}
	}
}

func TestCmp(t *testing.T) {
	for _, c := range []struct {
		a, b api.Nat
		want int
	}{
		{nil, nil, 0},
		{nil, api.Nat{0, 0}, 0},
		{api.Nat{3, 0}, api.Nat{3}, 0},
		{api.Nat{3}, api.Nat{3, 0, 0}, 0},
		{nil, api.Nat{1}, -1},
		{api.Nat{9}, api.Nat{0, 1}, -1},
		{api.Nat{9, 0}, api.Nat{0, 1}, -1},
		{api.Nat{2, 1}, api.Nat{1, 2}, -1},
		{api.Nat{1, 2}, api.Nat{2, 2}, -1},
		{api.Nat{1, 5, 1}, api.Nat{9, 4, 1}, 1},
		{api.Nat{0, 0, 1}, api.Nat{top, top, 0, 0}, 1},
	} {
		if got := Cmp(c.a, c.b); got != c.want {
			t.Errorf("Cmp(%v, %v) is %d, want %d", c.a, c.b, got, c.want)
		}
		if got := Cmp(c.b, c.a); got != -c.want {
			t.Errorf("Cmp(%v, %v) is %d, want %d", c.b, c.a, got, -c.want)
		}
	}
}

func TestAdd(t *testing.T) {
	for _, c := range []struct{ a, b, want api.Nat }{
		{nil, nil, nil},
		{api.Nat{0, 0}, api.Nat{0}, nil},
		{api.Nat{5, 0}, nil, api.Nat{5}},
		{api.Nat{4294967295}, api.Nat{1}, api.Nat{0, 1}},
		{api.Nat{top, top, top}, api.Nat{1, 0, 0, 0}, api.Nat{0, 0, 0, 1}},
		{api.Nat{top, top, 7}, api.Nat{1}, api.Nat{0, 0, 8}},
		{api.Nat{top, top}, api.Nat{top, top}, api.Nat{top - 1, top, 1}},
	} {
		if got := Add(c.a, c.b); !same(got, c.want) {
			t.Errorf("Add(%v, %v) is %v, want %v", c.a, c.b, got, c.want)
		}
		if got := Add(c.b, c.a); !same(got, c.want) {
			t.Errorf("Add(%v, %v) is %v, want %v", c.b, c.a, got, c.want)
		}
	}
}

func TestSub(t *testing.T) {
	for _, c := range []struct {
		a, b, want api.Nat
		ok         bool
	}{
		{nil, nil, nil, true},
		{api.Nat{0}, api.Nat{0, 0}, nil, true},
		{api.Nat{5, 0}, nil, api.Nat{5}, true},
		{api.Nat{5}, api.Nat{5, 0, 0}, nil, true},
		{api.Nat{0, 0, 1}, api.Nat{1, 0}, api.Nat{top, top}, true},
		{api.Nat{0, 0, 2}, api.Nat{1}, api.Nat{top, top, 1}, true},
		{api.Nat{4, 9}, api.Nat{3, 9}, api.Nat{1}, true},
		{api.Nat{1}, api.Nat{2}, nil, false},
		{nil, api.Nat{1}, nil, false},
		{api.Nat{top, top, 0}, api.Nat{0, 0, 1}, nil, false},
	} {
		if got, ok := Sub(c.a, c.b); !same(got, c.want) || ok != c.ok || !ok && got != nil {
			t.Errorf("Sub(%v, %v) is %v, %v, want %v, %v", c.a, c.b, got, ok, c.want, c.ok)
		}
	}
}

func TestMul(t *testing.T) {
	for _, c := range []struct{ a, b, want api.Nat }{
		{nil, nil, nil},
		{api.Nat{5, 6}, api.Nat{0, 0}, nil},
		{api.Nat{5, 6}, api.Nat{1, 0}, api.Nat{5, 6}},
		{api.Nat{top}, api.Nat{top}, api.Nat{1, top - 1}},
		{api.Nat{top, top}, api.Nat{top, top, 0}, api.Nat{1, 0, top - 1, top}},
		{api.Nat{0, 1}, api.Nat{0, 0, 3}, api.Nat{0, 0, 0, 3}},
	} {
		if got := Mul(c.a, c.b); !same(got, c.want) {
			t.Errorf("Mul(%v, %v) is %v, want %v", c.a, c.b, got, c.want)
		}
		if got := Mul(c.b, c.a); !same(got, c.want) {
			t.Errorf("Mul(%v, %v) is %v, want %v", c.b, c.a, got, c.want)
		}
	}
}

func TestDiv(t *testing.T) {
	for _, c := range []struct {
		a, b, q, r api.Nat
		ok         bool
	}{
		{api.Nat{0, 1}, api.Nat{10}, api.Nat{429496729}, api.Nat{6}, true},
		{nil, api.Nat{3}, nil, nil, true},
		{api.Nat{0, 0}, api.Nat{0, 1, 0}, nil, nil, true},
		{api.Nat{7, 0}, api.Nat{1, 0}, api.Nat{7}, nil, true},
		{api.Nat{7, 8}, api.Nat{7, 8, 0}, api.Nat{1}, nil, true},
		{api.Nat{6, 8, 0}, api.Nat{7, 8}, nil, api.Nat{6, 8}, true},
		{api.Nat{8, 8}, api.Nat{7, 8}, api.Nat{1}, api.Nat{1}, true},
		{api.Nat{5, 6, 7, 0}, api.Nat{0, 0, 1}, api.Nat{7}, api.Nat{5, 6}, true},
		{nil, nil, nil, nil, false},
		{api.Nat{3}, nil, nil, nil, false},
		{api.Nat{3, 4, 5}, api.Nat{0, 0}, nil, nil, false},
	} {
		q, r, ok := Div(c.a, c.b)
		if !same(q, c.q) || !same(r, c.r) || ok != c.ok || !ok && (q != nil || r != nil) {
			t.Errorf("Div(%v, %v) is %v, %v, %v, want %v, %v, %v", c.a, c.b, q, r, ok, c.q, c.r, c.ok)
		}
	}
}

// TestDivEstimates has the digits whose estimate from the leading limbs is too great, or does not fit into a limb.
func TestDivEstimates(t *testing.T) {
	for _, c := range [][2]api.Nat{
		{{0, 0, 1 << 31, 1<<31 - 1}, {1, 0, 1 << 31}},
		{{3, 0, 1 << 31}, {1, 0, 1 << 29}},
		{{0, top - 1, 1 << 31}, {top, 1 << 31}},
		{{0, 0, 1 << 31}, {top, 1 << 31}},
		{{0, top, 1 << 31}, {1, 1 << 31}},
		{{top, top, top - 1}, {top, top}},
		{{0, 0, 0, 1}, {top, top, 0}},
		{{top, top, top, top}, {1, 1}},
		{{0, 0, 3}, {top, 1}},
	} {
		q, r, ok := Div(c[0], c[1])
		wantQ, wantR := new(big.Int).QuoRem(toBig(c[0]), toBig(c[1]), new(big.Int))
		if !ok {
			t.Errorf("Div%v is false", c)
		}
		check(t, "Div, quotient", q, wantQ, c)
		check(t, "Div, remainder", r, wantR, c)
	}
}

func TestGcd(t *testing.T) {
	for _, c := range []struct{ a, b, want api.Nat }{
		{nil, nil, nil},
		{api.Nat{0, 0}, api.Nat{0}, nil},
		{nil, api.Nat{7, 0}, api.Nat{7}},
		{api.Nat{12}, api.Nat{18}, api.Nat{6}},
		{api.Nat{17}, api.Nat{19, 0, 0}, api.Nat{1}},
		{api.Nat{0, 12}, api.Nat{0, 18}, api.Nat{0, 6}},
		{api.Nat{0, 0, 0, 12}, api.Nat{0, 0, 0, 18}, api.Nat{0, 0, 0, 6}},
		{api.Nat{0, 0, 12}, api.Nat{0, 0, 0, 18}, api.Nat{0, 0, 12}},
		{api.Nat{0, 0, 0, 5}, nil, api.Nat{0, 0, 0, 5}},
		{api.Nat{0, 0, 0, 1}, api.Nat{6}, api.Nat{2}},
	} {
		if got := Gcd(c.a, c.b); !same(got, c.want) {
			t.Errorf("Gcd(%v, %v) is %v, want %v", c.a, c.b, got, c.want)
		}
		if got := Gcd(c.b, c.a); !same(got, c.want) {
			t.Errorf("Gcd(%v, %v) is %v, want %v", c.b, c.a, got, c.want)
		}
	}
}

func TestPow10(t *testing.T) {
	for n := range 61 {
		check(t, "Pow10", Pow10(n), new(big.Int).Exp(big.NewInt(10), big.NewInt(int64(n)), nil), n)
	}
	for _, n := range []int{-1, 61, 62, math.MinInt, math.MaxInt} {
		if got := Pow10(n); len(got) != 0 {
			t.Errorf("Pow10(%d) is %v, want 0", n, got)
		}
	}
}

func TestBits(t *testing.T) {
	for _, c := range []struct {
		a    api.Nat
		want int
	}{
		{nil, 0},
		{api.Nat{0, 0}, 0},
		{api.Nat{1}, 1},
		{api.Nat{255, 0}, 8},
		{api.Nat{256}, 9},
		{api.Nat{top}, 32},
		{api.Nat{0, 1}, 33},
		{api.Nat{0, 1, 0, 0}, 33},
		{api.Nat{0, 0, top, 0}, 96},
	} {
		if got := Bits(c.a); got != c.want {
			t.Errorf("Bits(%v) is %d, want %d", c.a, got, c.want)
		}
	}
}

func TestText(t *testing.T) {
	for _, c := range []struct {
		a    api.Nat
		want string
	}{
		{nil, "0"},
		{api.Nat{0, 0}, "0"},
		{api.Nat{7, 0}, "7"},
		{api.Nat{999999999}, "999999999"},
		{api.Nat{1000000000}, "1000000000"},
		{api.Nat{1000000001, 0}, "1000000001"},
		{api.Nat{0, 1}, "4294967296"},
		{api.Nat{0, 0, 1}, "18446744073709551616"},
		{api.Nat{0xa7640000, 0xde0b6b3}, "1000000000000000000"},
	} {
		if got := Text(c.a); got != c.want {
			t.Errorf("Text(%v) is %q, want %q", c.a, got, c.want)
		}
	}
}

func TestParse(t *testing.T) {
	for _, c := range []struct {
		s    string
		want api.Nat
	}{
		{"0", nil},
		{"1", api.Nat{1}},
		{"10", api.Nat{10}},
		{"999999999", api.Nat{999999999}},
		{"1000000000", api.Nat{1000000000}},
		{"4294967295", api.Nat{top}},
		{"4294967296", api.Nat{0, 1}},
		{"18446744073709551616", api.Nat{0, 0, 1}},
		{"1000000000000000000", api.Nat{0xa7640000, 0xde0b6b3}},
	} {
		if got, ok := Parse(c.s); !same(got, c.want) || !ok {
			t.Errorf("Parse(%q) is %v, %v, want %v, true", c.s, got, ok, c.want)
		}
	}
	for n := 1; n < 60; n++ {
		s := strings.Repeat("9876543210", 6)[:n]
		want, _ := new(big.Int).SetString(s, 10)
		got, ok := Parse(s)
		if !ok {
			t.Errorf("Parse(%q) is false", s)
		}
		check(t, "Parse", got, want, s)
	}
}

func TestParseInvalid(t *testing.T) {
	for _, s := range []string{
		"", "00", "007", "0000000000", "01234567890123456789",
		"+1", "-1", "-0", " 1", "1 ", "1\n", "1a", "a1", "0x1", "1_000", "1.0", "1e3",
		"/", ":", "1/", "1:", "12345678:", "123456789/", "\x00", "1\x00", "1\xff", "\xff", "٣", "1٣",
		strings.Repeat("1", 100) + "x" + strings.Repeat("1", 100),
	} {
		if got, ok := Parse(s); got != nil || ok {
			t.Errorf("Parse(%q) is %v, %v, want nil, false", s, got, ok)
		}
	}
}

// TestRandom compares all functions with math/big.
func TestRandom(t *testing.T) {
	s := source(1)
	for i := range 20000 {
		a, b := s.nat(i%9), s.nat(i/9%7)
		x, y := toBig(a), toBig(b)
		check(t, "Norm", Norm(a), x, a)
		check(t, "Add", Add(a, b), new(big.Int).Add(x, y), a, b)
		check(t, "Mul", Mul(a, b), new(big.Int).Mul(x, y), a, b)
		check(t, "Gcd", Gcd(a, b), new(big.Int).GCD(nil, nil, x, y), a, b)
		if got := Cmp(a, b); got != x.Cmp(y) {
			t.Errorf("Cmp(%v, %v) is %d", a, b, got)
		}
		if got := Bits(a); got != x.BitLen() {
			t.Errorf("Bits(%v) is %d", a, got)
		}
		if got, ok := Uint64(a); ok != x.IsUint64() || ok && got != x.Uint64() || !ok && got != 0 {
			t.Errorf("Uint64(%v) is %d, %v", a, got, ok)
		}
		checkSub(t, a, b)
		checkDiv(t, a, b)
		checkText(t, a)
		if t.Failed() {
			return
		}
	}
}

func checkSub(t *testing.T, a, b api.Nat) {
	t.Helper()
	got, ok := Sub(a, b)
	want := new(big.Int).Sub(toBig(a), toBig(b))
	if ok != (want.Sign() >= 0) {
		t.Errorf("Sub(%v, %v) is %v", a, b, ok)
	}
	if want.Sign() < 0 {
		want.SetInt64(0)
	}
	check(t, "Sub", got, want, a, b)
}

func checkDiv(t *testing.T, a, b api.Nat) {
	t.Helper()
	q, r, ok := Div(a, b)
	wantQ, wantR := new(big.Int), new(big.Int)
	if toBig(b).Sign() != 0 {
		wantQ.QuoRem(toBig(a), toBig(b), wantR)
	}
	if ok != (toBig(b).Sign() != 0) {
		t.Errorf("Div(%v, %v) is %v", a, b, ok)
	}
	check(t, "Div, quotient", q, wantQ, a, b)
	check(t, "Div, remainder", r, wantR, a, b)
}

func checkText(t *testing.T, a api.Nat) {
	t.Helper()
	text := Text(a)
	if text != toBig(a).String() {
		t.Errorf("Text(%v) is %q", a, text)
	}
	got, ok := Parse(text)
	if !ok {
		t.Errorf("Parse(%q) is false", text)
	}
	check(t, "Parse", got, toBig(a), text)
}

// TestLong has numbers that are longer than those that counts have.
func TestLong(t *testing.T) {
	s := source(2)
	for range 5 {
		a, b := s.nat(300), s.nat(120)
		x, y := toBig(a), toBig(b)
		check(t, "Add", Add(a, b), new(big.Int).Add(x, y), "long")
		check(t, "Mul", Mul(a, b), new(big.Int).Mul(x, y), "long")
		check(t, "Gcd", Gcd(a, b), new(big.Int).GCD(nil, nil, x, y), "long")
		checkSub(t, a, b)
		checkDiv(t, a, b)
		checkText(t, a)
	}
}

// results returns all Nats that the functions return for these arguments.
func results(a, b api.Nat) []api.Nat {
	difference, _ := Sub(a, b)
	q, r, _ := Div(a, b)
	parsed, _ := Parse(Text(a))
	Cmp(a, b)
	Bits(a)
	Uint64(a)
	return []api.Nat{Norm(a), Add(a, b), Mul(a, b), Gcd(a, b), difference, q, r, parsed}
}

func cloneAll(list []api.Nat) []api.Nat {
	var clones []api.Nat
	for _, a := range list {
		clones = append(clones, slices.Clone(a))
	}
	return clones
}

// roomy returns a with spare capacity, and all the memory that it lies in.
func roomy(a api.Nat) (arg, memory api.Nat) {
	memory = append(slices.Clone(a), 11, 12, 13, 14)
	return memory[:len(a)], memory
}

// TestMemory checks that arguments are not changed, spare capacity included, and that results share memory neither with them nor with each other.
func TestMemory(t *testing.T) {
	numbers := []api.Nat{nil, {0}, {1}, {5, 0}, {top, top}, {0, 0, 9}, {3, 4, 5, 0, 0}, {1, 0, 0, 1 << 31}, {top, top, top, top}}
	for _, x := range numbers {
		for _, y := range numbers {
			a, memoryA := roomy(x)
			b, memoryB := roomy(y)
			beforeA, beforeB := slices.Clone(memoryA), slices.Clone(memoryB)
			got := results(a, b)
			if !same(memoryA, beforeA) || !same(memoryB, beforeB) {
				t.Fatalf("%v and %v became %v and %v", beforeA, beforeB, memoryA, memoryB)
			}
			checkSeparate(t, got, memoryA, memoryB)
		}
	}
}

// checkSeparate overwrites each result in turn, with its spare capacity, and checks that nothing else changes.
func checkSeparate(t *testing.T, got []api.Nat, memoryA, memoryB api.Nat) {
	t.Helper()
	all := append(slices.Clone(got), memoryA, memoryB)
	for i, result := range got {
		before := cloneAll(all)
		spare := result[:cap(result)]
		for j := range spare {
			spare[j] = ^spare[j]
		}
		for j, other := range all {
			if j != i && !same(other, before[j]) {
				t.Fatalf("result %d shares memory with %d: %v", i, j, before)
			}
		}
	}
}

// TestSameArguments passes one slice for both arguments.
func TestSameArguments(t *testing.T) {
	for _, a := range []api.Nat{{5}, {0, 7, 0}, {top, top, top}} {
		x := toBig(a)
		check(t, "Add", Add(a, a), new(big.Int).Add(x, x), a)
		check(t, "Mul", Mul(a, a), new(big.Int).Mul(x, x), a)
		check(t, "Gcd", Gcd(a, a), x, a)
		checkSub(t, a, a)
		checkDiv(t, a, a)
	}
}
