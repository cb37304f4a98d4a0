package image

import (
	"bytes"
	"slices"
	"testing"

	"election/api"
)

// checkCode compares Encode with the reference, and reads the encoding back.
func checkCode(t *testing.T, p picture) {
	t.Helper()
	want := p.encode()
	i := p.toImage()
	if got := Encode(i); !bytes.Equal(got, want) {
		t.Fatalf("Encode of %s is %v, want %v", preview(i), got, want)
	}
	got, ok := Decode(want)
	if !ok {
		t.Fatalf("Decode(%v) is false", want)
	}
	checkImage(t, got, p, "Decode(%v)", want)
}

func checkNoImage(t *testing.T, b []byte) {
	t.Helper()
	if i, ok := Decode(b); ok || !isZero(i) {
		t.Fatalf("Decode(%v) is %s, %v", b[:min(len(b), 20)], preview(i), ok)
	}
}

func TestEncode(t *testing.T) {
	for _, c := range []struct {
		p    picture
		want []byte
	}{
		{picture{".#."}, []byte{0, 3, 0, 1, 1, 1, 1}},
		{picture{"."}, []byte{0, 1, 0, 1, 1}},
		{picture{"#"}, []byte{0, 1, 0, 1, 0, 1}},
		{picture{"#..", "..#"}, []byte{0, 3, 0, 2, 0, 1, 4, 1}},
		{picture{"..#", "##."}, []byte{0, 3, 0, 2, 2, 3, 1}},
		{blank(254, 1), []byte{0, 254, 0, 1, 254}},
		{blank(255, 1), []byte{0, 255, 0, 1, 255, 0}},
		{blank(1, 256), []byte{0, 1, 1, 0, 255, 1}},
		{blank(510, 1), []byte{1, 254, 0, 1, 255, 255, 0}},
		{full(512, 1), []byte{2, 0, 0, 1, 0, 255, 255, 2}},
		{full(255, 1), []byte{0, 255, 0, 1, 0, 255, 0}},
		{blank(300, 2).fill(0, 1, 255, 1, true), []byte{1, 44, 0, 2, 255, 45, 255, 0, 45}},
	} {
		if got := Encode(c.p.toImage()); !bytes.Equal(got, c.want) {
			t.Errorf("Encode of %d x %d is %v, want %v", len(c.p[0]), len(c.p), got, c.want)
		}
		checkCode(t, c.p)
	}
}

func TestEncodeSamples(t *testing.T) {
	s := source(6)
	for _, p := range append(samples(), s.noise(511, 13, 50), blank(512, 512), full(512, 512), full(1, 512), blank(511, 511)) {
		checkCode(t, p)
	}
	for percent := 0; percent <= 100; percent += 20 {
		checkCode(t, s.noise(512, 512, percent))
		checkCode(t, s.noise(100, 37, percent))
	}
}

// TestRunLengths has runs of all lengths up to several bytes, at the start, in the middle and at the end.
func TestRunLengths(t *testing.T) {
	for length := range 512 {
		for _, at := range []int{0, 1, 511 - length, 512 - length} {
			p := blank(512, 1).fill(at, 0, length, 1, true)
			checkCode(t, p)
			checkCode(t, full(512, 1).fill(at, 0, length, 1, false))
		}
	}
	for _, length := range []int{764, 765, 766, 1019, 1020, 1021, 5100, 40000} {
		p := makePicture(200, 201, func(x, y int) bool { return 200*y+x >= 200*201-length })
		checkCode(t, p)
		checkCode(t, p.turn())
	}
}

// TestDecodeShort has every encoding with a small header and a short list of certain lengths: those that are the reference's encodings of an image are decoded, and no others.
func TestDecodeShort(t *testing.T) {
	for _, size := range [][2]int{{1, 1}, {2, 1}, {1, 2}, {3, 1}, {2, 2}, {5, 1}} {
		w, h := size[0], size[1]
		want := map[string]picture{}
		for number := range 1 << (w * h) {
			p := makePicture(w, h, func(x, y int) bool { return number>>(y*w+x)&1 == 1 })
			want[string(p.encode())] = p
		}
		found := 0
		lists := [][]byte{{0, byte(w), 0, byte(h)}}
		for range 7 {
			var longer [][]byte
			for _, b := range lists {
				if p, ok := want[string(b)]; ok {
					checkCode(t, p)
					found++
				} else {
					checkNoImage(t, b)
				}
				for _, length := range []byte{0, 1, 2, 3, 4, 5, 255} {
					longer = append(longer, append(slices.Clone(b), length))
				}
			}
			lists = longer
		}
		if found != len(want) {
			t.Errorf("%d of %d images of %d x %d were found", found, len(want), w, h)
		}
	}
}

// TestDecodeHeaders has all headers with certain bytes, followed by the lengths of a blank and of a full image.
func TestDecodeHeaders(t *testing.T) {
	list := []byte{0, 1, 2, 3, 127, 128, 254, 255}
	for _, a := range list {
		for _, b := range list {
			for _, c := range list {
				for _, d := range list {
					header := []byte{a, b, c, d}
					w, h := 256*int(a)+int(b), 256*int(c)+int(d)
					if w >= 1 && w <= 512 && h >= 1 && h <= 512 {
						checkBlank(t, header, w, h)
						continue
					}
					checkNoSize(t, header, w*h)
				}
			}
		}
	}
}

// checkNoSize checks that there is no image with this header, if it has this number of pixels. The lengths of millions of pixels are left out.
func checkNoSize(t *testing.T, header []byte, count int) {
	t.Helper()
	checkNoImage(t, header)
	if count < 1<<20 {
		lengths := append(bytes.Repeat([]byte{255}, count/255), byte(count%255))
		checkNoImage(t, slices.Concat(header, lengths))
		checkNoImage(t, slices.Concat(header, []byte{0}, lengths))
	}
}

// checkBlank checks the encoding of a blank image with this header, and lengths that are too short or too long.
func checkBlank(t *testing.T, header []byte, w, h int) {
	t.Helper()
	i, ok := Decode(slices.Concat(header, bytes.Repeat([]byte{255}, w*h/255), []byte{byte(w * h % 255)}))
	if !ok || i.W != w || i.H != h || !Valid(i) || bytes.ContainsFunc(i.Bits, func(r rune) bool { return r != 0 }) {
		t.Fatalf("the blank image of %d x %d is %s, %v", w, h, preview(i), ok)
	}
	for _, count := range []int{0, w*h - 1, w*h + 1, w*h + 8, w*h + 255, w*h + 1<<16} {
		checkNoImage(t, slices.Concat(header, bytes.Repeat([]byte{255}, count/255), []byte{byte(count % 255)}))
	}
}

func TestDecodeInvalid(t *testing.T) {
	for _, b := range [][]byte{
		nil, {}, {0}, {0, 3}, {0, 3, 0}, {0, 3, 0, 1},
		{0, 0, 0, 0}, {0, 0, 0, 0, 0}, {0, 0, 0, 1, 0}, {0, 1, 0, 0, 0}, {0, 0, 0, 1, 1}, {0, 0, 0, 0, 1},
		{2, 1, 0, 1, 255, 255, 3}, {0, 1, 2, 1, 255, 255, 3}, {1, 0, 0, 1, 1}, {0, 1, 1, 0, 1},
		{0, 3, 0, 1, 1, 1}, {0, 3, 0, 1, 1, 1, 2}, {0, 3, 0, 1, 4}, {0, 3, 0, 1, 2, 2},
		{0, 3, 0, 1, 1, 1, 1, 0}, {0, 3, 0, 1, 3, 0}, {0, 3, 0, 1, 3, 1}, {0, 3, 0, 1, 3, 3}, {0, 3, 0, 1, 0, 3, 0},
		{0, 3, 0, 1, 1, 0, 2}, {0, 3, 0, 1, 1, 0, 0, 2}, {0, 3, 0, 1, 0, 0, 3}, {0, 3, 0, 1, 0, 0, 0, 3}, {0, 3, 0, 1, 1, 1, 0, 1, 1}, {0, 3, 0, 1, 1, 2, 0},
		{0, 3, 0, 1, 0}, {0, 3, 0, 1, 0, 0}, {0, 3, 0, 1, 255}, {0, 3, 0, 1, 0, 255}, {0, 3, 0, 1, 255, 255}, {0, 3, 0, 1, 255, 3},
		{0, 255, 0, 1, 255}, {0, 255, 0, 1, 0, 255}, {0, 255, 0, 1, 254, 1, 255}, {0, 255, 0, 1, 255, 0, 0}, {0, 255, 0, 1, 255, 0, 255},
		{1, 254, 0, 1, 255, 255}, {1, 254, 0, 1, 255, 0, 255}, {1, 254, 0, 1, 255, 0, 0, 255, 0},
	} {
		checkNoImage(t, b)
	}
}

// TestDecodeChanges changes encodings at one place each. An encoding that is decoded nevertheless must be that of its image.
func TestDecodeChanges(t *testing.T) {
	s := source(7)
	decoded := 0
	check := func(b []byte) {
		t.Helper()
		i, ok := Decode(b)
		if !ok {
			checkNoImage(t, b)
			return
		}
		decoded++
		p := makePicture(i.W, i.H, func(x, y int) bool { return Get(i, x, y) })
		if !Valid(i) || !bytes.Equal(p.encode(), b) {
			t.Fatalf("Decode(%v) is %s", b, preview(i))
		}
	}
	for _, p := range append(samples(), blank(100, 6), full(100, 6), s.noise(60, 20, 1), s.noise(30, 9, 40)) {
		code := p.encode()
		for at := range len(code) {
			checkNoImage(t, code[:at])
			for _, value := range []byte{0, 1, 2, code[at] - 1, code[at] + 1, 254, 255} {
				changed := slices.Clone(code)
				changed[at] = value
				check(changed)
				check(slices.Insert(slices.Clone(code), at, value))
			}
			check(slices.Delete(slices.Clone(code), at, at+1))
			if at+1 < len(code) {
				// The sum of the lengths stays.
				changed := slices.Clone(code)
				changed[at]++
				changed[at+1]--
				check(changed)
			}
		}
		for value := range 256 {
			checkNoImage(t, append(slices.Clone(code), byte(value)))
		}
	}
	if decoded < 100 {
		t.Errorf("only %d changed encodings are encodings", decoded)
	}
}

func TestDecodeLong(t *testing.T) {
	for _, header := range [][]byte{{0, 3, 0, 1}, {2, 0, 2, 0}, {255, 255, 255, 255}, {0, 0, 0, 0}} {
		for _, value := range []byte{0, 1, 127, 254, 255} {
			checkNoImage(t, append(slices.Clone(header), bytes.Repeat([]byte{value}, 3000000)...))
		}
	}
	// The longest encoding: every run has the length 1.
	checkCode(t, makePicture(512, 512, func(x, y int) bool { return (x+y*512)%2 == 0 }))
	checkCode(t, makePicture(512, 512, func(x, y int) bool { return x%2 == 1 }))
}

// TestDecodeInvalidImages has what the encodings of images that are not valid would be.
func TestDecodeInvalidImages(t *testing.T) {
	for _, i := range invalid() {
		if got, ok := Decode(Encode(i)); ok || !isZero(got) {
			t.Errorf("%s is read back as %s", preview(i), preview(got))
		}
	}
	var none api.Image
	if got, ok := Decode(Encode(none)); ok || !isZero(got) {
		t.Error("the zero Image is read back as", preview(got))
	}
}
