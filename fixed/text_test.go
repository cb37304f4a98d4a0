package fixed

import (
	"math/big"
	"strings"
	"testing"

	"election/api"
)

func TestText(t *testing.T) {
	for _, c := range []struct {
		a      api.Nat
		digits int
		want   string
	}{
		{api.Nat{5}, 2, "0.05"},
		{api.Nat{50}, 2, "0.50"},
		{api.Nat{500}, 2, "5.00"},
		{api.Nat{505}, 2, "5.05"},
		{api.Nat{99}, 2, "0.99"},
		{api.Nat{100}, 2, "1.00"},
		{api.Nat{123456}, 3, "123.456"},
		{api.Nat{10}, 1, "1.0"},
		{api.Nat{1}, 6, "0.000001"},
		{api.Nat{1000000}, 6, "1.000000"},
		{api.Nat{7}, 0, "7"},
		{api.Nat{70}, 0, "70"},
		{nil, 0, "0"},
		{nil, 1, "0.0"},
		{nil, 6, "0.000000"},
		{api.Nat{0, 0, 1}, 0, "18446744073709551616"},
		{api.Nat{0, 0, 1}, 6, "18446744073709.551616"},
		// Not in normal form.
		{api.Nat{0, 0}, 0, "0"},
		{api.Nat{0, 0}, 3, "0.000"},
		{api.Nat{7, 0}, 0, "7"},
		{api.Nat{5, 0, 0}, 2, "0.05"},
	} {
		if got := Text(c.a, c.digits); got != c.want {
			t.Errorf("Text(%v, %d) is %q, want %q", c.a, c.digits, got, c.want)
		}
	}
}

func TestParse(t *testing.T) {
	for _, c := range []struct {
		s      string
		digits int
		want   api.Nat
	}{
		{"0.05", 2, api.Nat{5}},
		{"0.50", 2, api.Nat{50}},
		{"1.50", 2, api.Nat{150}},
		{"10.00", 2, api.Nat{1000}},
		{"123.456", 3, api.Nat{123456}},
		{"0.0", 1, nil},
		{"0.000000", 6, nil},
		{"0.000001", 6, api.Nat{1}},
		{"0", 0, nil},
		{"7", 0, api.Nat{7}},
		{"70", 0, api.Nat{70}},
		{"4294.967296", 6, api.Nat{0, 1}},
		{"18446744073709.551616", 6, api.Nat{0, 0, 1}},
		{"18446744073709551616", 0, api.Nat{0, 0, 1}},
	} {
		if got, ok := Parse(c.s, c.digits); !same(got, c.want) || !ok {
			t.Errorf("Parse(%q, %d) is %v, %v, want %v, true", c.s, c.digits, got, ok, c.want)
		}
	}
}

func TestParseInvalid(t *testing.T) {
	for _, c := range []struct {
		digits int
		texts  []string
	}{
		{0, []string{
			"", "7.", "7.0", ".", ".0", ".7", "0.", "00", "07", "-7", "+7", " 7", "7 ", "1e3", "0x1", "1_0", "1,0", "٣",
		}},
		{1, []string{"", ".", ".5", "5", "5.", "5.00", "05.0", "5.0.", "5.0.0", "..0", "5..0", "5,0", "-0.0"}},
		{2, []string{
			"", "1", "1.", "1.5", "1.500", "150", ".50", ".", "..", "...", "1..5", "1.5.", ".1.50", "1.50.", "1.5.0", "1.50.00",
			"01.50", "00.50", "000.50", "0.5", "0.005",
			"-1.50", "+1.50", "--1.50", "-0.00", "1.-5", "1.+5", "1.5-", "1-.50", "1.5+",
			" 1.50", "1.50 ", "1 .50", "1. 5", "1.5 ", "1.50\n", "\t1.50", "1,50", "1:50",
			"a.50", "1.5a", "1.a5", "1a.50", "1e1.50", "1.e1", "0x1.50", "1_0.50", "1._5", "1.5_",
			"1.5/", "1.5:", "/.50", ":.50", "1.\x005", "\x001.50", "1.50\x00", "\xff.50", "1.\xff\xff", "1.٣", "٣.50", "1.５0",
		}},
		{6, []string{"1", "1.00000", "1.0000000", "0.00001", ".000001", "01.000000", "1000000", "1.00000a"}},
	} {
		for _, s := range c.texts {
			if got, ok := Parse(s, c.digits); got != nil || ok {
				t.Errorf("Parse(%q, %d) is %v, %v, want nil, false", s, c.digits, got, ok)
			}
		}
	}
}

// bigText writes all digits of a, zeros before them as far as the point needs them, and then sets the point.
func bigText(a *big.Int, digits int) string {
	text := a.String()
	if missing := digits + 1 - len(text); missing > 0 {
		text = strings.Repeat("0", missing) + text
	}
	if digits == 0 {
		return text
	}
	last := len(text) - digits
	return text[:last] + "." + text[last:]
}

// checkText is called for random numbers.
func checkText(t *testing.T, a api.Nat, digits int) {
	t.Helper()
	text := Text(a, digits)
	if want := bigText(toBig(a), digits); text != want {
		t.Errorf("Text(%v, %d) is %q, want %q", a, digits, text, want)
	}
	got, ok := Parse(text, digits)
	if !ok {
		t.Errorf("Parse(%q, %d) is false", text, digits)
	}
	check(t, "Parse", got, toBig(a), text, digits)
}

// TestParseAll parses every short text of some bytes, and compares it with the Texts of all numbers that have so short ones.
func TestParseAll(t *testing.T) {
	const length = 6
	for _, digits := range []int{0, 1, 2, 3, 4} {
		numbers := map[string]int{}
		for a := 0; len(bigText(big.NewInt(int64(a)), digits)) <= length; a++ {
			numbers[bigText(big.NewInt(int64(a)), digits)] = a
		}
		texts := []string{""}
		for i := 0; i < len(texts); i++ {
			s := texts[i]
			if len(s) < length {
				texts = append(texts, s+"0", s+"1", s+"9", s+".", s+"-")
			}
			a, isText := numbers[s]
			got, ok := Parse(s, digits)
			if ok != isText || !ok && got != nil {
				t.Errorf("Parse(%q, %d) is %v, %v", s, digits, got, ok)
			}
			if ok {
				check(t, "Parse", got, big.NewInt(int64(a)), s, digits)
			}
		}
	}
}

// TestLong has numbers that are longer than those that counts have.
func TestLong(t *testing.T) {
	s := source(3)
	a, b := s.nat(300), s.nat(120)
	for digits := range api.MaxDigits + 1 {
		checkArithmetic(t, a, b, digits)
		checkRatio(t, a, digits)
		checkText(t, a, digits)
		zeros := strings.Repeat("0", 3000)
		if got, ok := Parse(zeros+Text(b, digits), digits); got != nil || ok {
			t.Errorf("Parse of zeros and a text is %v, %v", got, ok)
		}
	}
}
