package digest

import (
	"bytes"
	"crypto/sha256"
	"encoding/binary"
	"slices"
	"strings"
	"testing"

	"election/api"
)

// source yields bytes that look random.
type source uint64

func (s *source) next() uint64 {
	*s = *s*6364136223846793005 + 1442695040888963407
	return uint64(*s) >> 33
}

func (s *source) bytes(n int) []byte {
	b := make([]byte, n)
	for i := range b {
		b[i] = byte(s.next())
	}
	return b
}

// TestSum has the examples of the chapter and of FIPS 180-4, and the padding's edge cases.
func TestSum(t *testing.T) {
	for _, c := range []struct{ message, want string }{
		{"", "e3b0c44298fc1c149afbf4c8996fb92427ae41e4649b934ca495991b7852b855"},
		{"abc", "ba7816bf8f01cfea414140de5dae2223b00361a396177a9cb410ff61f20015ad"},
		{"abcdbcdecdefdefgefghfghighijhijkijkljklmklmnlmnomnopnopq", "248d6a61d20638b8e5c026930c3e6039a33ce45964ff2167f6ecedd419db06c1"},
		{"\x80", "76be8b528d0075f7aae98d6fa57a6d3c83ae480a8469e668d7b0af968995ac71"},
		{strings.Repeat("\x00", 55), "02779466cdec163811d078815c633f21901413081449002f24aa3e80f0b88ef7"},
		{strings.Repeat("\x00", 56), "d4817aa5497628e7c77e6b606107042bbba3130888c5f47a375e6179be789fbb"},
		{strings.Repeat("\x00", 64), "f5a5fd42d16a20302798ef6ed309979b43003d2320d9f0e8ea9831a92759fb4b"},
		{strings.Repeat("a", 1000000), "cdc76e5c9914fb9281a1c7e284d73e67f1809a48a497200e046d39ccc7112cd0"},
	} {
		if got := Text(Sum([]byte(c.message))); got != c.want {
			t.Errorf("Sum of %d bytes is %s, want %s", len(c.message), got, c.want)
		}
	}
	if Sum(nil) != Sum([]byte{}) {
		t.Error("Sum tells nil from empty")
	}
}

// TestSumLengths compares Sum with crypto/sha256 for every length up to several blocks.
func TestSumLengths(t *testing.T) {
	s := source(1)
	for length := range 7*blockBytes + 1 {
		for _, b := range [][]byte{make([]byte, length), bytes.Repeat([]byte{255}, length), s.bytes(length)} {
			if got, want := Sum(b), sha256.Sum256(b); got != api.Digest(want) {
				t.Fatalf("Sum of %d bytes is %x, want %x", length, got, want)
			}
		}
	}
}

func TestSumLong(t *testing.T) {
	s := source(2)
	for _, length := range []int{1 << 13, 1<<16 - 1, 1<<16 + 56, 3<<20 + 55} {
		b := s.bytes(length)
		if got, want := Sum(b), sha256.Sum256(b); got != api.Digest(want) {
			t.Errorf("Sum of %d bytes is %x, want %x", length, got, want)
		}
	}
}

// TestSumTakesEveryBit changes each bit of a message in turn.
func TestSumTakesEveryBit(t *testing.T) {
	b := make([]byte, 130)
	seen := map[api.Digest]bool{Sum(b): true}
	for i := range 8 * len(b) {
		b[i/8] ^= 1 << (i % 8)
		d := Sum(b)
		if seen[d] || d != api.Digest(sha256.Sum256(b)) {
			t.Errorf("bit %d: %x", i, d)
		}
		seen[d] = true
		b[i/8] ^= 1 << (i % 8)
	}
}

// TestTail checks the padding of messages that are too long for a test of Sum.
func TestTail(t *testing.T) {
	s := source(3)
	for _, blocks := range []uint64{0, 1, 1 << 20, 1 << 23, 1<<26 - 1, 1 << 40} {
		for left := range uint64(blockBytes) {
			rest, length := s.bytes(int(left)), blocks*blockBytes+left
			want := append(slices.Clone(rest), 128)
			for len(want)%64 != 56 {
				want = append(want, 0)
			}
			want = binary.BigEndian.AppendUint64(want, 8*length)
			if got := tail(rest, length); !bytes.Equal(got, want) {
				t.Errorf("tail of %d bytes of %d is %v, want %v", left, length, got, want)
			}
		}
	}
}

func TestJoin(t *testing.T) {
	a := []byte("a")
	for _, c := range []struct {
		parts [][]byte
		want  []byte
	}{
		{nil, nil},
		{[][]byte{}, nil},
		{[][]byte{nil}, []byte{0, 0, 0, 0}},
		{[][]byte{{}}, []byte{0, 0, 0, 0}},
		{[][]byte{nil, {}, nil}, make([]byte, 12)},
		{[][]byte{a}, []byte{0, 0, 0, 1, 97}},
		{[][]byte{a, {}}, []byte{0, 0, 0, 1, 97, 0, 0, 0, 0}},
		{[][]byte{nil, a}, []byte{0, 0, 0, 0, 0, 0, 0, 1, 97}},
		{[][]byte{a, a}, []byte{0, 0, 0, 1, 97, 0, 0, 0, 1, 97}},
		{[][]byte{{0, 0, 0, 1, 97}}, []byte{0, 0, 0, 5, 0, 0, 0, 1, 97}},
		{[][]byte{{255, 128}, {0}, {1, 2, 3}}, []byte{0, 0, 0, 2, 255, 128, 0, 0, 0, 1, 0, 0, 0, 0, 3, 1, 2, 3}},
	} {
		if got := Join(c.parts...); !bytes.Equal(got, c.want) {
			t.Errorf("Join(%v) is %v, want %v", c.parts, got, c.want)
		}
	}
}

// TestJoinLengths has lengths in which each of the four bytes counts.
func TestJoinLengths(t *testing.T) {
	for _, c := range []struct {
		length int
		want   []byte
	}{
		{255, []byte{0, 0, 0, 255}},
		{256, []byte{0, 0, 1, 0}},
		{258, []byte{0, 0, 1, 2}},
		{65535, []byte{0, 0, 255, 255}},
		{65536, []byte{0, 1, 0, 0}},
		{0x01020304, []byte{1, 2, 3, 4}},
	} {
		part := bytes.Repeat([]byte{7}, c.length)
		got := Join(part, []byte{9})
		want := slices.Concat(c.want, part, []byte{0, 0, 0, 1, 9})
		if !bytes.Equal(got, want) {
			t.Errorf("Join of %d bytes and 1 has %d bytes and begins with %v, want %d and %v", c.length, len(got), got[:min(4, len(got))], len(want), c.want)
		}
	}
}

func TestOf(t *testing.T) {
	a := []byte("a")
	for _, c := range []struct {
		parts  [][]byte
		joined []byte
	}{
		{nil, nil},
		{[][]byte{nil}, []byte{0, 0, 0, 0}},
		{[][]byte{a, nil}, []byte{0, 0, 0, 1, 97, 0, 0, 0, 0}},
		{[][]byte{nil, a}, []byte{0, 0, 0, 0, 0, 0, 0, 1, 97}},
		{[][]byte{a, a, a}, []byte{0, 0, 0, 1, 97, 0, 0, 0, 1, 97, 0, 0, 0, 1, 97}},
	} {
		if got, want := Of(c.parts...), sha256.Sum256(c.joined); got != api.Digest(want) {
			t.Errorf("Of(%v) is %x, want %x", c.parts, got, want)
		}
	}
	if Text(Of()) != "e3b0c44298fc1c149afbf4c8996fb92427ae41e4649b934ca495991b7852b855" {
		t.Error("Of no parts is", Text(Of()))
	}
}

func TestOfRandom(t *testing.T) {
	s := source(4)
	for range 300 {
		var parts [][]byte
		var joined []byte
		for range s.next() % 6 {
			part := s.bytes(int(s.next() % 100))
			parts = append(parts, part)
			joined = binary.BigEndian.AppendUint32(joined, uint32(len(part)))
			joined = append(joined, part...)
		}
		if got := Join(parts...); !bytes.Equal(got, joined) {
			t.Fatalf("Join(%v) is %v, want %v", parts, got, joined)
		}
		if got, want := Of(parts...), sha256.Sum256(joined); got != api.Digest(want) {
			t.Fatalf("Of(%v) is %x, want %x", parts, got, want)
		}
	}
}
