package digest

import (
	"encoding/hex"
	"strings"
	"testing"

	"election/api"
)

func TestText(t *testing.T) {
	all := api.Digest{}
	for i := range all {
		all[i] = 255
	}
	for _, c := range []struct {
		d    api.Digest
		want string
	}{
		{api.Digest{}, strings.Repeat("0", 64)},
		{all, strings.Repeat("f", 64)},
		{api.Digest{0: 0x01, 31: 0x10}, "01" + strings.Repeat("0", 60) + "10"},
		{api.Digest{0: 0xab, 1: 0xcd, 2: 0xef, 30: 0x9a, 31: 0x0f}, "abcdef" + strings.Repeat("0", 54) + "9a0f"},
		{Sum([]byte("abc")), "ba7816bf8f01cfea414140de5dae2223b00361a396177a9cb410ff61f20015ad"},
	} {
		if got := Text(c.d); got != c.want {
			t.Errorf("Text(%v) is %s, want %s", c.d, got, c.want)
		}
		if got, ok := Parse(c.want); !ok || got != c.d {
			t.Errorf("Parse(%q) is %v, %v, want %v, true", c.want, got, ok, c.d)
		}
	}
}

// TestTextOfBytes has every byte at every place.
func TestTextOfBytes(t *testing.T) {
	for place := range len(api.Digest{}) {
		for value := range 256 {
			d := Sum([]byte{byte(place)})
			d[place] = byte(value)
			text := Text(d)
			if text != hex.EncodeToString(d[:]) {
				t.Fatalf("Text(%v) is %s", d, text)
			}
			if got, ok := Parse(text); !ok || got != d {
				t.Fatalf("Parse(%q) is %v, %v, want %v, true", text, got, ok, d)
			}
		}
	}
}

func checkNoDigest(t *testing.T, s string) {
	t.Helper()
	if got, ok := Parse(s); ok || got != (api.Digest{}) {
		t.Errorf("Parse(%q) is %v, %v, want the zero digest, false", s, got, ok)
	}
}

// TestParseBytes puts every byte at every place of a text.
func TestParseBytes(t *testing.T) {
	text := Text(Sum(nil))
	for place := range text {
		for value := range 256 {
			c := byte(value)
			s := text[:place] + string([]byte{c}) + text[place+1:]
			if c >= '0' && c <= '9' || c >= 'a' && c <= 'f' {
				if got, ok := Parse(s); !ok || Text(got) != s {
					t.Errorf("Parse(%q) is %v, %v", s, got, ok)
				}
			} else {
				checkNoDigest(t, s)
			}
		}
	}
}

func TestParseInvalid(t *testing.T) {
	for length := range 200 {
		if length != 64 {
			checkNoDigest(t, strings.Repeat("0", length))
			checkNoDigest(t, strings.Repeat("f", length))
		}
	}
	text := Text(Sum(nil))
	for _, s := range []string{
		strings.ToUpper(text), "0x" + text, "0x" + text[2:], " " + text, text + " ", text + "\n", text[:63] + "\x00", text + "\x00",
		text[:32] + " " + text[32:], text[:31] + "_" + text[32:], "-" + text[1:], "+" + text[1:], text + text,
		strings.Repeat("٣", 32), strings.Repeat("０", 64), strings.Repeat("\xff", 64),
	} {
		checkNoDigest(t, s)
	}
}
