package image

import (
	"bytes"
	"math"
	"slices"
	"testing"

	"election/api"
)

// TestExample has the example of the chapter, and the order of the bits.
func TestExample(t *testing.T) {
	i, err := New(3, 1)
	if err != api.OK || !same(i, api.Image{W: 3, H: 1, Bits: []byte{0}}) {
		t.Fatal("New", i, err)
	}
	i = Fill(i, 1, 0, 1, 1, true)
	if !same(i, api.Image{W: 3, H: 1, Bits: []byte{64}}) {
		t.Error("Fill", i)
	}
	if got := Shift(i, 1, 0); !same(got, api.Image{W: 3, H: 1, Bits: []byte{32}}) {
		t.Error("Shift by (1, 0)", got)
	}
	if got := Shift(i, 2, 0); !same(got, api.Image{W: 3, H: 1, Bits: []byte{0}}) {
		t.Error("Shift by (2, 0)", got)
	}
	for _, c := range []struct{ x, y, at, value int }{{0, 0, 0, 128}, {4, 0, 0, 8}, {0, 1, 0, 4}, {2, 1, 0, 1}, {3, 1, 1, 128}, {4, 1, 1, 64}, {0, 2, 1, 32}, {4, 2, 1, 2}} {
		want := make([]byte, 2)
		want[c.at] = byte(c.value)
		i, _ := New(5, 3)
		if got := Fill(i, c.x, c.y, 1, 1, true); !bytes.Equal(got.Bits, want) || !Get(got, c.x, c.y) {
			t.Errorf("the pixel (%d, %d) is %v, want %v", c.x, c.y, got.Bits, want)
		}
	}
}

func TestNew(t *testing.T) {
	sides := append(near(-3, 17), 255, 256, 257, 510, 511, 512, 513, 514, 1024, 1<<16, 1<<16+1, 1<<32+1)
	for _, w := range sides {
		for _, h := range sides {
			i, err := New(w, h)
			if w < 1 || w > 512 || h < 1 || h > 512 {
				if err != api.ErrRange || !isZero(i) {
					t.Errorf("New(%d, %d) is %s, %d", w, h, preview(i), err)
				}
				continue
			}
			if err != api.OK || !Valid(i) {
				t.Errorf("New(%d, %d) has the error %d", w, h, err)
			}
			checkImage(t, i, blank(w, h), "New(%d, %d)", w, h)
		}
	}
}

// TestValidLengths gives every size near the limits each number of bytes near the right one.
func TestValidLengths(t *testing.T) {
	for _, w := range []int{1, 2, 7, 8, 9, 100, 511, 512} {
		for _, h := range []int{1, 3, 8, 15, 512} {
			right := 0
			for 8*right < w*h {
				right++
			}
			for n := max(right-3, 0); n <= right+3; n++ {
				if got := Valid(api.Image{W: w, H: h, Bits: make([]byte, n)}); got != (n == right) {
					t.Errorf("Valid of %d x %d with %d bytes is %v", w, h, n, got)
				}
			}
		}
	}
}

// TestValidSides has sides that are out of their range, with as many bytes as their product asks for.
func TestValidSides(t *testing.T) {
	sides := append(near(-9, 9), 64, 511, 512, 513, 514, 600, 1<<16, 1<<31, 1<<32+1, 1<<62, 1<<63-8)
	for _, w := range sides {
		for _, h := range sides {
			size := (w*h + 7) / 8 // this overflows
			for _, n := range []int{0, 1, size} {
				if n < 0 || n > 1<<16 {
					continue
				}
				i := api.Image{W: w, H: h, Bits: make([]byte, n)}
				want := w >= 1 && w <= 512 && h >= 1 && h <= 512 && n == size
				if Valid(i) != want {
					t.Errorf("Valid of %d x %d with %d bytes is %v", w, h, n, !want)
				}
			}
		}
	}
}

// TestValidBits sets each bit of an image in turn: the unused ones must be 0.
func TestValidBits(t *testing.T) {
	for w := 1; w <= 25; w++ {
		for h := 1; h <= 3; h++ {
			for n := range (w*h + 7) / 8 * 8 {
				i := blank(w, h).toImage()
				i.Bits[n/8] = 128 >> (n % 8)
				if got := Valid(i); got != (n < w*h) {
					t.Errorf("Valid of %d x %d with the bit %d is %v", w, h, n, got)
				}
			}
			if !Valid(full(w, h).toImage()) {
				t.Errorf("Valid of %d x %d with all bits is false", w, h)
			}
		}
	}
	if !Valid(full(512, 512).toImage()) || !Valid(full(511, 511).toImage()) {
		t.Error("Valid of a great image is false")
	}
}

// invalid returns images that are not valid.
func invalid() []api.Image {
	list := []api.Image{
		{}, {W: 1}, {H: 1}, {Bits: []byte{0}}, {W: 3, H: 1}, {W: 3, H: 1, Bits: []byte{}},
		{W: 3, H: 1, Bits: []byte{0, 0}}, {W: 3, H: 1, Bits: []byte{16}}, {W: 3, H: 1, Bits: []byte{1}}, {W: 3, H: 3, Bits: []byte{0, 64}},
		// All of their pixels are filled.
		{W: 3, H: 1, Bits: []byte{255}}, {W: 3, H: 1, Bits: []byte{240}}, {W: 3, H: 1, Bits: []byte{225}}, {W: 3, H: 3, Bits: []byte{255, 129}},
		{W: 3, H: 1, Bits: []byte{224, 0}}, {W: 8, H: 1, Bits: []byte{255, 0}}, {W: 8, H: 2, Bits: []byte{255}}, {W: 3, H: 1, Bits: []byte{224, 255}},
		{W: -3, H: -3, Bits: []byte{255, 128}}, {W: 0, H: 8, Bits: []byte{255}}, {W: 8, H: 0}, {W: -1, H: -8, Bits: []byte{255}},
		{W: 513, H: 1, Bits: make([]byte, 65)}, {W: 1, H: 513, Bits: make([]byte, 65)}, {W: 1024, H: 512, Bits: make([]byte, 65536)},
		{W: 1 << 32, H: 1 << 32}, {W: 1 << 32, H: 1 << 32, Bits: []byte{0}}, {W: 1<<32 + 8, H: 1 << 32, Bits: []byte{255}},
	}
	for _, w := range extremes {
		for _, h := range append(slices.Clone(extremes), 1, 8) {
			list = append(list, api.Image{W: w, H: h}, api.Image{W: w, H: h, Bits: []byte{255}}, api.Image{W: h, H: w, Bits: []byte{255}})
		}
	}
	return list
}

func TestInvalidImages(t *testing.T) {
	for _, i := range invalid() {
		if Valid(i) || Get(i, 0, 0) || Get(i, 1, 0) || Count(i, 0, 0, 9, 9) != 0 || Count(i, -9, -9, math.MaxInt, math.MaxInt) != 0 {
			t.Errorf("%s has pixels", preview(i))
		}
		for _, on := range []bool{false, true} {
			if !isZero(Fill(i, 0, 0, 1, 1, on)) || !isZero(Fill(i, 0, 0, 0, 0, on)) {
				t.Errorf("Fill of %s is not zero", preview(i))
			}
		}
		if !isZero(Shift(i, 0, 0)) || !isZero(Shift(i, 600, 0)) || !isZero(Turn(i)) || len(Encode(i)) != 0 {
			t.Errorf("a result of %s is not zero", preview(i))
		}
		checkNoXor(t, i, i)
		for _, p := range samples() {
			checkNoXor(t, i, p.toImage())
			checkNoXor(t, p.toImage(), i)
		}
	}
}

func checkNoXor(t *testing.T, a, b api.Image) {
	t.Helper()
	if got, ok := Xor(a, b); ok || !isZero(got) {
		t.Errorf("Xor of %s and %s is %s, %v", preview(a), preview(b), preview(got), ok)
	}
}

func TestGet(t *testing.T) {
	for _, p := range samples() {
		i := p.toImage()
		for _, x := range near(-2, i.W+2) {
			for _, y := range near(-2, i.H+2) {
				if Get(i, x, y) != p.filled(x, y) {
					t.Errorf("Get of (%d, %d) of %v is %v", x, y, p, !p.filled(x, y))
				}
			}
		}
	}
	i := full(5, 4).toImage()
	for _, at := range [][2]int{{5, 0}, {-1, 1}, {0, 4}, {4, -1}, {5, 3}, {-5, 1}, {10, -1}, {6, -1}} {
		if Get(i, at[0], at[1]) {
			t.Errorf("the pixel %v exists", at)
		}
	}
}

// checkRectangle compares Fill and Count with the reference.
func checkRectangle(t *testing.T, p picture, x, y, w, h int) {
	t.Helper()
	i := p.toImage()
	for _, on := range []bool{false, true} {
		got := Fill(i, x, y, w, h, on)
		checkImage(t, got, p.fill(x, y, w, h, on), "Fill(%v, %d, %d, %d, %d, %v)", p, x, y, w, h, on)
	}
	if got, want := Count(i, x, y, w, h), p.count(x, y, w, h); got != want {
		t.Fatalf("Count(%v, %d, %d, %d, %d) is %d, want %d", p, x, y, w, h, got, want)
	}
}

// TestRectangles has all rectangles within and around small images, and all those with extreme numbers.
func TestRectangles(t *testing.T) {
	for _, p := range []picture{{"#.", ".#", "#."}, {"#"}, {"##.", "..#"}} {
		for _, x := range near(-3, 4) {
			for _, y := range near(-3, 4) {
				for _, w := range near(-2, 6) {
					for _, h := range near(-2, 6) {
						checkRectangle(t, p, x, y, w, h)
					}
				}
			}
		}
	}
}

// TestRectanglesOfRows has all parts of a row, which begin and end at all places of a byte.
func TestRectanglesOfRows(t *testing.T) {
	for _, p := range samples() {
		w, h := len(p[0]), len(p)
		for x := -1; x <= w; x++ {
			for width := range w + 3 {
				checkRectangle(t, p, x, 0, width, h)
				checkRectangle(t, p, x, h-1, width, 1)
				checkRectangle(t, p, x, h/2, width, 2)
			}
		}
	}
}

func TestRectanglesOfGreatImages(t *testing.T) {
	s := source(2)
	for _, size := range [][2]int{{512, 512}, {511, 509}, {512, 1}, {1, 512}, {300, 200}} {
		p := s.noise(size[0], size[1], 50)
		checkRectangle(t, p, 0, 0, 512, 512)
		checkRectangle(t, p, math.MinInt, math.MinInt, math.MaxInt, math.MaxInt)
		checkRectangle(t, p, -5, -5, math.MaxInt, math.MaxInt)
		checkRectangle(t, p, size[0]-1, size[1]-1, math.MaxInt, math.MaxInt)
		for range 10 {
			checkRectangle(t, p, s.below(600)-40, s.below(600)-40, s.below(600), s.below(600))
		}
	}
	if got := Count(full(512, 512).toImage(), 0, 0, 512, 512); got != 512*512 {
		t.Error("Count of the greatest image is", got)
	}
}

func checkShift(t *testing.T, p picture, dx, dy int) {
	t.Helper()
	checkImage(t, Shift(p.toImage(), dx, dy), p.shift(dx, dy), "Shift(%d, %d) of %d x %d", dx, dy, len(p[0]), len(p))
}

func TestShift(t *testing.T) {
	for _, p := range samples() {
		for _, dx := range near(-len(p[0])-2, len(p[0])+2) {
			for _, dy := range near(-len(p)-2, len(p)+2) {
				checkShift(t, p, dx, dy)
			}
		}
	}
	s := source(3)
	for _, p := range []picture{s.noise(512, 512, 50), s.noise(333, 77, 50), full(512, 3)} {
		for _, by := range [][2]int{{0, 0}, {3, -3}, {-1, 0}, {0, 1}, {511, 0}, {-511, 1}, {0, 511}, {-512, 0}, {512, 512}, {513, 0}, {200, -100}} {
			checkShift(t, p, by[0], by[1])
		}
	}
}

// TestShiftOut has the shifts that leave one pixel, and those that leave none.
func TestShiftOut(t *testing.T) {
	i := full(9, 5).toImage()
	for _, c := range []struct{ dx, dy, x, y int }{{8, 4, 8, 4}, {-8, 4, 0, 4}, {8, -4, 8, 0}, {-8, -4, 0, 0}} {
		got := Shift(i, c.dx, c.dy)
		if Count(got, 0, 0, 9, 5) != 1 || !Get(got, c.x, c.y) {
			t.Errorf("Shift by (%d, %d) is %s", c.dx, c.dy, preview(got))
		}
	}
	for _, by := range append(slices.Clone(extremes), 9, -9, 10, 511, 512, -512, 513) {
		for _, got := range []api.Image{Shift(i, by, 0), Shift(i, 0, by), Shift(i, by, by), Shift(i, by, -1)} {
			checkImage(t, got, blank(9, 5), "Shift by %d", by)
		}
	}
}

func TestTurn(t *testing.T) {
	s := source(4)
	for _, p := range append(samples(), s.noise(512, 512, 50), s.noise(511, 13, 50), full(77, 3)) {
		i := p.toImage()
		turned := Turn(i)
		checkImage(t, turned, p.turn(), "Turn of %s", preview(i))
		checkImage(t, Turn(turned), p, "Turn twice of %s", preview(i))
	}
}

func TestXor(t *testing.T) {
	s := source(5)
	for _, p := range append(samples(), s.noise(512, 512, 50), s.noise(511, 13, 50)) {
		w, h := len(p[0]), len(p)
		for _, q := range []picture{p, blank(w, h), full(w, h), s.noise(w, h, 50), p.turn()} {
			want := makePicture(w, h, func(x, y int) bool { return p.filled(x, y) != q.filled(x, y) })
			got, ok := Xor(p.toImage(), q.toImage())
			if !ok {
				t.Fatalf("Xor of %d x %d is false", w, h)
			}
			checkImage(t, got, want, "Xor of %d x %d", w, h)
		}
	}
	for _, p := range samples() {
		for _, q := range samples() {
			if len(p) != len(q) || len(p[0]) != len(q[0]) {
				checkNoXor(t, p.toImage(), q.toImage())
			}
		}
	}
	// The same number of bytes, and of pixels.
	checkNoXor(t, full(2, 3).toImage(), full(3, 2).toImage())
	checkNoXor(t, blank(3, 2).toImage(), blank(4, 2).toImage())
	checkNoXor(t, blank(3, 2).toImage(), blank(3, 1).toImage())
}

// TestAllImages has every image of some small sizes.
func TestAllImages(t *testing.T) {
	for _, size := range [][2]int{{1, 1}, {2, 1}, {1, 3}, {2, 2}, {3, 3}, {5, 2}, {11, 1}} {
		w, h := size[0], size[1]
		seen := map[string]bool{}
		for number := range 1 << (w * h) {
			p := makePicture(w, h, func(x, y int) bool { return number>>(y*w+x)&1 == 1 })
			i := p.toImage()
			seen[string(i.Bits)] = true
			if !Valid(i) || Count(i, 0, 0, w, h) != p.count(0, 0, w, h) {
				t.Fatalf("%v is not valid, or Count is wrong", p)
			}
			checkImage(t, Turn(i), p.turn(), "Turn of %v", p)
			checkShift(t, p, 1, 0)
			checkShift(t, p, -1, 1)
			checkCode(t, p)
		}
		if len(seen) != 1<<(w*h) {
			t.Errorf("%d x %d has %d images", w, h, len(seen))
		}
	}
}
