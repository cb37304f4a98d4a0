package image

import (
	"bytes"
	"fmt"
	"math"
	"slices"
	"strconv"
	"strings"
	"testing"

	"election/api"
)

// A picture has the rows of an image, in which # is a filled pixel. The reference works on pictures alone.
type picture []string

// extremes are numbers whose sums and differences overflow.
var extremes = []int{math.MinInt, math.MinInt + 1, math.MinInt + 2, math.MinInt / 2, -1 << 32, 1 << 32, math.MaxInt / 2, math.MaxInt - 1, math.MaxInt}

// near returns the numbers from low to high, and the extremes.
func near(low, high int) []int {
	list := slices.Clone(extremes)
	for n := low; n <= high; n++ {
		list = append(list, n)
	}
	return list
}

// source yields numbers that look random.
type source uint64

func (s *source) next() uint64 {
	*s = *s*6364136223846793005 + 1442695040888963407
	return uint64(*s) >> 33
}

func (s *source) below(n int) int { return int(s.next() % uint64(n)) }

// makePicture returns the picture of this size whose pixels are filled as a function of their coordinates says.
func makePicture(w, h int, filled func(x, y int) bool) picture {
	var p picture
	for y := range h {
		row := make([]byte, w)
		for x := range w {
			row[x] = '.'
			if filled(x, y) {
				row[x] = '#'
			}
		}
		p = append(p, string(row))
	}
	return p
}

func blank(w, h int) picture { return makePicture(w, h, func(x, y int) bool { return false }) }

func full(w, h int) picture { return makePicture(w, h, func(x, y int) bool { return true }) }

// noise returns a picture in which percent of the pixels are filled.
func (s *source) noise(w, h, percent int) picture {
	return makePicture(w, h, func(x, y int) bool { return s.below(100) < percent })
}

// samples returns pictures of several sizes, whose rows begin and end at all places of a byte.
func samples() []picture {
	s := source(1)
	list := []picture{{"#..#", ".##.", "#.#."}, {"#"}, {"."}, full(8, 1), full(3, 3), blank(7, 2), full(16, 2)}
	for _, size := range [][2]int{{1, 1}, {1, 2}, {2, 1}, {1, 9}, {9, 1}, {3, 3}, {4, 2}, {5, 5}, {7, 3}, {8, 8}, {9, 7}, {17, 5}, {3, 20}} {
		list = append(list, s.noise(size[0], size[1], 50), s.noise(size[0], size[1], 15))
	}
	return list
}

// toImage writes the rows as bits, one after the other, and takes eight of them for a byte.
func (p picture) toImage() api.Image {
	digits := strings.NewReplacer(".", "0", "#", "1").Replace(strings.Join(p, ""))
	digits += strings.Repeat("0", (8-len(digits)%8)%8)
	i := api.Image{W: len(p[0]), H: len(p)}
	for d := range slices.Chunk([]byte(digits), 8) {
		b, err := strconv.ParseUint(string(d), 2, 8)
		if err != nil {
			panic(err)
		}
		i.Bits = append(i.Bits, byte(b))
	}
	return i
}

func (p picture) filled(x, y int) bool {
	return y >= 0 && y < len(p) && x >= 0 && x < len(p[y]) && p[y][x] == '#'
}

// within reports whether start <= n < start + length. The distance is computed without a sign, so that it does not overflow.
func within(n, start, length int) bool {
	return n >= start && length > 0 && uint64(n)-uint64(start) < uint64(length)
}

func (p picture) fill(x, y, w, h int, on bool) picture {
	return makePicture(len(p[0]), len(p), func(px, py int) bool {
		if within(px, x, w) && within(py, y, h) {
			return on
		}
		return p.filled(px, py)
	})
}

func (p picture) count(x, y, w, h int) int {
	count := 0
	for py, row := range p {
		for px := range row {
			if within(px, x, w) && within(py, y, h) && p.filled(px, py) {
				count++
			}
		}
	}
	return count
}

// shift moves rows and columns by one pixel as often as it must, or until nothing is left.
func (p picture) shift(dx, dy int) picture {
	p = slices.Clone(p)
	empty := strings.Repeat(".", len(p[0]))
	for range min(distance(dy), len(p)) {
		if dy > 0 {
			p = append(picture{empty}, p[:len(p)-1]...)
		} else {
			p = append(p[1:], empty)
		}
	}
	for range min(distance(dx), len(empty)) {
		for y, row := range p {
			if dx > 0 {
				p[y] = "." + row[:len(row)-1]
			} else {
				p[y] = row[1:] + "."
			}
		}
	}
	return p
}

// distance returns the absolute value of n, or the greatest number if that is greater.
func distance(n int) int { return max(n, -max(n, -math.MaxInt)) }

// turn reverses the rows and the order of the rows.
func (p picture) turn() picture {
	var turned picture
	for _, row := range slices.Backward(p) {
		b := []byte(row)
		slices.Reverse(b)
		turned = append(turned, string(b))
	}
	return turned
}

// encode cuts the pixels into runs with functions for strings.
func (p picture) encode() []byte {
	code := []byte{byte(len(p[0]) / 256), byte(len(p[0]) % 256), byte(len(p) / 256), byte(len(p) % 256)}
	rest := strings.Join(p, "")
	for pixel, other := ".", "#"; rest != ""; pixel, other = other, pixel {
		left := strings.TrimLeft(rest, pixel)
		length := len(rest) - len(left)
		code = append(code, bytes.Repeat([]byte{255}, length/255)...)
		code = append(code, byte(length%255))
		rest = left
	}
	return code
}

func same(a, b api.Image) bool { return a.W == b.W && a.H == b.H && bytes.Equal(a.Bits, b.Bits) }

func isZero(i api.Image) bool { return i.W == 0 && i.H == 0 && len(i.Bits) == 0 }

// preview describes an image, for the messages of tests.
func preview(i api.Image) string {
	return fmt.Sprintf("%d x %d %v", i.W, i.H, i.Bits[:min(len(i.Bits), 20)])
}

func checkImage(t *testing.T, got api.Image, want picture, format string, values ...any) {
	t.Helper()
	if w := want.toImage(); !same(got, w) {
		t.Fatalf("%s is %s, want %s", fmt.Sprintf(format, values...), preview(got), preview(w))
	}
}
