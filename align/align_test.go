package align

import (
	"math"
	"math/rand"
	"reflect"
	"slices"
	"strings"
	"testing"

	"election/api"
	"election/image"
	"election/layout"
)

// exampleScan is a sheet of precinct 1 of an election with 2 dots, a candidate and 2 ranks, that was turned and then shifted by (2, -3). The second rank of the candidate is marked.
const exampleScan = `
..................................
..................................
...............................##.
...............................##.
..................................
..................................
...................##..........##.
...................##..........##.
..................................
..................................
.......##......##..........##..##.
.......##......##..........##..##.
..................................
..................................
..................................
..................................
..................................
..................................`

// TestExample has the example of the chapter.
func TestExample(t *testing.T) {
	e := single(t, 2, 3, 1, 2)
	sheet, err := layout.Draw(e, 1, []int{1})
	if err != api.OK {
		t.Fatal("Draw", err)
	}
	scan := image.Shift(image.Turn(sheet), 2, -3)
	p := picture(strings.Fields(exampleScan))
	if !reflect.DeepEqual(scan, p.toImage()) {
		t.Fatalf("the scan is\n%s", strings.Join(toPicture(scan), "\n"))
	}
	want := api.Pose{DX: 2, DY: -3, Turned: true, Precinct: 1}
	checkPose(t, e, p, want)
	checkStraighten(t, p, want, toPicture(sheet))
}

// TestAllPoses lays sheets in all poses.
func TestAllPoses(t *testing.T) {
	r := rand.New(rand.NewSource(11))
	var elections []api.Election
	for dots := 2; dots <= 7; dots++ {
		elections = append(elections, town(t, dots), single(t, dots, 2, 1, 1), single(t, dots, 1, 2, 7))
	}
	for _, e := range elections {
		for precinct := range e.Precincts {
			for k, filled := range []func(int) bool{empty, full, some(r)} {
				sheet := draw(e, precinct, filled)
				for _, pose := range poses()[k%2:] {
					pose.Precinct = precinct
					scan := sheet.lay(pose)
					checkPose(t, e, scan, pose)
					checkStraighten(t, scan, pose, sheet)
				}
			}
		}
	}
}

// TestAllPrecincts has as many precincts as there can be.
func TestAllPrecincts(t *testing.T) {
	for dots := 2; dots <= 7; dots++ {
		e := single(t, dots, 12, 2, 2)
		for precinct := range 12 {
			for _, pose := range []api.Pose{{}, {DX: 3, DY: -2}, {DX: -1, DY: -1, Turned: true}} {
				pose.Precinct = precinct
				checkPose(t, e, draw(e, precinct, full).lay(pose), pose)
			}
		}
	}
}

// TestGreatestSheet has all limits at once.
func TestGreatestSheet(t *testing.T) {
	e := single(t, 7, 12, 7, 7)
	for _, name := range []string{"d", "e", "f"} {
		c := e.Contests[0]
		c.Name = name
		e.Contests = append(e.Contests, c)
	}
	e.Styles[0].Contests = []int{3, 1, 0, 2}
	checkValid(t, e)
	sheet := draw(e, 11, full)
	if len(sheet) != 468 || len(sheet[0]) != 132 {
		t.Fatal("the size of the sheet is", len(sheet[0]), len(sheet))
	}
	for _, pose := range []api.Pose{{}, {DX: 3, DY: 3}, {DX: -3, DY: 3, Turned: true}, {DX: 3, DY: 3, Turned: true}} {
		pose.Precinct = 11
		scan := sheet.lay(pose)
		checkPose(t, e, scan, pose)
		checkStraighten(t, scan, pose, sheet)
	}
	// The last cell of column 0 is compared, too.
	checkNoPose(t, e, sheet.change(9, 464-7).toImage(), api.ErrImage)
	checkPose(t, e, sheet.change(10, 464-7), api.Pose{Precinct: 11})
}

// TestFurtherShifts has sheets that are shifted by more than three pixels.
func TestFurtherShifts(t *testing.T) {
	for dots := 2; dots <= 7; dots++ {
		e := single(t, dots, 2, 2, 3)
		sheet := draw(e, 0, full)
		for _, turned := range []bool{false, true} {
			for _, far := range []int{-14, -6, -5, -4, 4, 5, 6, 14} {
				for near := -4; near <= 4; near++ {
					checkFind(t, e, sheet.lay(api.Pose{DX: far, DY: near, Turned: turned}))
					checkFind(t, e, sheet.lay(api.Pose{DX: near, DY: far, Turned: turned}))
				}
			}
		}
		// Nothing of the sheet is lost here, but the poses end before.
		for _, pose := range []api.Pose{{DX: 4}, {DX: -4}, {DY: 4}, {DY: -4}} {
			checkNoPose(t, e, sheet.lay(pose).toImage(), api.ErrImage)
		}
	}
}

// TestEachPixel changes one pixel after the other: only those of the compared cells matter.
func TestEachPixel(t *testing.T) {
	for _, e := range []api.Election{town(t, 2), town(t, 3), single(t, 7, 1, 1, 1), single(t, 2, 1, 1, 7)} {
		for precinct := range e.Precincts {
			sheet := draw(e, precinct, full)
			frame, lost, kept := pixels(e, precinct), 0, 0
			for y := range sheet {
				for x := range sheet[y] {
					pose := api.Pose{DX: (x+y)%7 - 3, DY: (x+2*y)%7 - 3, Turned: x%2 == 0, Precinct: precinct}
					changed := sheet.change(x, y)
					if _, is := frame[pixel{x, y}]; is {
						lost++
						checkNoPose(t, e, changed.lay(pose).toImage(), api.ErrImage)
					} else {
						kept++
						checkPose(t, e, changed.lay(pose), pose)
					}
				}
			}
			cells := len(rows(e, precinct)) + 6
			if lost != cells*e.Dots*e.Dots || kept == 0 {
				t.Errorf("%d pixels are compared, and %d are not", lost, kept)
			}
			if t.Failed() {
				t.FailNow()
			}
		}
	}
}

// TestCodes has all 32 codes: only those of precincts whose sheets have this size are read.
func TestCodes(t *testing.T) {
	for _, e := range []api.Election{single(t, 3, 12, 1, 2), single(t, 2, 1, 2, 2), single(t, 2, 3, 2, 2), town(t, 3)} {
		for precinct := range e.Precincts {
			base, found := draw(e, precinct, some(rand.New(rand.NewSource(1)))), 0
			frame := pixels(e, precinct)
			for code := range 32 {
				sheet := makePicture(len(base[0]), len(base), func(x, y int) bool {
					k := (x-3)/(2*e.Dots) - 2
					if _, is := frame[pixel{x, y}]; is && k >= 0 {
						return code>>(4-k)&1 == 1
					}
					return base.filled(x, y)
				})
				for _, pose := range []api.Pose{{}, {DX: -2, DY: 3}, {DX: 3, DY: 1, Turned: true}} {
					if _, ok := checkFind(t, e, sheet.lay(pose)); ok {
						found++
					}
				}
			}
			want := len(e.Precincts)
			if len(e.Styles) > 1 { // the town
				want = []int{3, 1, 3, 3}[precinct]
			}
			if found != 3*want {
				t.Errorf("%d of 32 codes are those of a precinct, want %d", found/3, want)
			}
		}
	}
}

// TestSizes has images that show a sheet, but have another size.
func TestSizes(t *testing.T) {
	e := town(t, 2)
	for precinct := range e.Precincts {
		sheet := draw(e, precinct, full)
		for dw := -9; dw <= 9; dw++ {
			for dh := -9; dh <= 9; dh++ {
				scan := makePicture(len(sheet[0])+dw, len(sheet)+dh, sheet.filled)
				if _, ok := checkFind(t, e, scan); ok != (dw == 0 && dh == 0) {
					t.Errorf("a sheet that is longer by %d, %d has a pose: %t", dw, dh, ok)
				}
				checkFind(t, e, scan.turn())
			}
		}
	}
	for _, size := range [][2]int{{1, 1}, {1, 512}, {512, 1}, {512, 512}, {34, 26}, {26, 34}} {
		for _, filled := range []bool{false, true} {
			scan := makePicture(size[0], size[1], func(x, y int) bool { return filled })
			checkNoPose(t, e, scan.toImage(), api.ErrImage)
		}
	}
}

// thick returns a sheet whose filled cells reach further by some pixels in each direction, so that it fits in several poses.
func thick(sheet picture, left, right, up, down int) picture {
	var all []picture
	for dx := -left; dx <= right; dx++ {
		for dy := -up; dy <= down; dy++ {
			all = append(all, sheet.shift(dx, dy))
		}
	}
	return merge(all...)
}

// shiftsInOrder are the shifts in the order in which they are examined, as the chapter describes it.
var shiftsInOrder = [][2]int{
	{0, 0},
	{0, -1}, {-1, 0}, {1, 0}, {0, 1},
	{0, -2}, {-1, -1}, {1, -1}, {-2, 0}, {2, 0}, {-1, 1}, {1, 1}, {0, 2},
	{0, -3}, {-1, -2}, {1, -2}, {-2, -1}, {2, -1}, {-3, 0}, {3, 0}, {-2, 1}, {2, 1}, {-1, 2}, {1, 2}, {0, 3},
	{-1, -3}, {1, -3}, {-2, -2}, {2, -2}, {-3, -1}, {3, -1}, {-3, 1}, {3, 1}, {-2, 2}, {2, 2}, {-1, 3}, {1, 3},
	{-2, -3}, {2, -3}, {-3, -2}, {3, -2}, {-3, 2}, {3, 2}, {-2, 3}, {2, 3},
	{-3, -3}, {3, -3}, {-3, 3}, {3, 3},
}

// TestOrderOfShifts has, for each two shifts, a picture that fits in both, whether it is turned or not.
func TestOrderOfShifts(t *testing.T) {
	e := single(t, 7, 1, 1, 1)
	sheet := draw(e, 0, empty)
	later := 0
	for i, a := range shiftsInOrder {
		for k, b := range shiftsInOrder[i+1:] {
			first, second := api.Pose{DX: a[0], DY: a[1]}, api.Pose{DX: b[0], DY: b[1]}
			first.Turned = (i+k)%2 == 1
			second.Turned = first.Turned
			scan := merge(sheet.lay(first), sheet.lay(second))
			if !scan.fits(e, 0, first) || !scan.fits(e, 0, second) {
				t.Fatal("the picture does not fit in both poses", first, second)
			}
			// A pose between the two can come before both.
			if pose, _ := checkFind(t, e, scan); pose == first {
				later++
			}
		}
	}
	if later < 900 {
		t.Errorf("only %d pairs of shifts are compared", later)
	}
	for i, pose := range poses() {
		if s := shiftsInOrder[i%49]; pose != (api.Pose{DX: s[0], DY: s[1], Turned: i >= 49}) {
			t.Fatalf("pose %d of the reference is %+v", i, pose)
		}
	}
}

// TestTurnedLast has pictures of two sheets, one of which is turned: the other one is found, however far it is shifted.
func TestTurnedLast(t *testing.T) {
	for dots := 4; dots <= 7; dots++ {
		e := single(t, dots, 2, 1, 2)
		one, other := draw(e, 0, empty), draw(e, 1, empty)
		for _, a := range []api.Pose{{}, {DX: 3, DY: 3}, {DX: -3, DY: 3}, {DX: 3, DY: -3}, {DX: -2, DY: -3}} {
			for _, b := range []api.Pose{{}, {DX: 1}, {DX: -1}, {DY: -1}, {DY: 1}} {
				b.Turned = true
				a.Precinct, b.Precinct = 0, 1
				scan := merge(one.lay(a), other.lay(b))
				if scan.fits(e, 0, a) && scan.fits(e, 1, b) {
					checkPose(t, e, scan, a)
				} else {
					checkFind(t, e, scan)
				}
				a.Precinct, b.Precinct = 1, 0
				checkFind(t, e, merge(other.lay(a), one.lay(b)))
			}
		}
	}
	e := single(t, 5, 2, 1, 2)
	both := merge(draw(e, 0, empty).shift(1, 1), draw(e, 1, empty).turn())
	checkPose(t, e, both, api.Pose{DX: 1, DY: 1})
	checkPose(t, e, both.turn(), api.Pose{Precinct: 1})
}

// TestShiftBeforePrecinct has pictures of the sheets of two precincts at different shifts: the shift decides, not the precinct.
func TestShiftBeforePrecinct(t *testing.T) {
	e := single(t, 2, 12, 1, 2)
	for a := range 12 {
		for b := range 12 {
			for _, turned := range []bool{false, true} {
				near, far := api.Pose{Turned: turned, Precinct: a}, api.Pose{DX: 2, DY: 2, Turned: turned, Precinct: b}
				scan := merge(draw(e, a, empty).lay(near), draw(e, b, empty).lay(far))
				if !scan.fits(e, a, near) || !scan.fits(e, b, far) {
					t.Fatal("the picture does not fit in both poses", near, far)
				}
				checkPose(t, e, scan, near)
				near.DY, far.DX = 2, -1
				scan = merge(draw(e, a, empty).lay(near), draw(e, b, empty).lay(far))
				checkFind(t, e, scan)
			}
		}
	}
}

// TestManyPoses has pictures that fit in many poses.
func TestManyPoses(t *testing.T) {
	r := rand.New(rand.NewSource(12))
	fitting := 0
	for round := range 1500 {
		e := single(t, 2+r.Intn(6), 1+r.Intn(3), 1, 1+r.Intn(2))
		var all []picture
		for range 1 + r.Intn(4) {
			sheet := draw(e, r.Intn(len(e.Precincts)), some(r))
			if round%2 == 0 {
				sheet = thick(sheet, r.Intn(3), r.Intn(3), r.Intn(3), r.Intn(3))
			}
			all = append(all, sheet.lay(api.Pose{DX: r.Intn(7) - 3, DY: r.Intn(7) - 3, Turned: r.Intn(2) == 0}))
		}
		if _, ok := checkFind(t, e, merge(all...)); ok {
			fitting++
		}
	}
	if fitting < 300 || fitting > 1400 {
		t.Errorf("%d pictures have a pose", fitting)
	}
}

// TestNoise has sheets with changed pixels, most of them outside of the compared cells.
func TestNoise(t *testing.T) {
	r := rand.New(rand.NewSource(13))
	fitting := 0
	for range 1500 {
		e := town(t, 2+r.Intn(3))
		precinct, spoiled := r.Intn(4), r.Intn(3)
		sheet, frame := draw(e, precinct, some(r)), pixels(e, precinct)
		sheet = makePicture(len(sheet[0]), len(sheet), func(x, y int) bool {
			if want, is := frame[pixel{x, y}]; is && (spoiled > 0 || r.Intn(60) > 0) {
				return want
			}
			return sheet.filled(x, y) != (r.Intn(3) == 0)
		})
		if _, ok := checkFind(t, e, sheet.lay(api.Pose{DX: r.Intn(7) - 3, DY: r.Intn(7) - 3, Turned: r.Intn(2) == 0})); ok {
			fitting++
		}
	}
	if fitting < 700 || fitting > 1400 {
		t.Errorf("%d pictures have a pose", fitting)
	}
}

// TestEdge has sheets that lie on an image whose edge is filled. The cells of some poses reach up to the edge, and Straighten loses pixels.
func TestEdge(t *testing.T) {
	e := single(t, 2, 1, 1, 1)
	sheet := draw(e, 0, full)
	w, h := len(sheet[0]), len(sheet)
	edge := makePicture(w, h, func(x, y int) bool { return x == 0 || y == 0 || x == w-1 || y == h-1 })
	fitting := 0
	for _, pose := range poses() {
		scan := merge(sheet.lay(pose), edge)
		if _, ok := checkFind(t, e, scan); ok {
			fitting++
		}
		checkStraighten(t, scan, pose, scan.straighten(pose))
	}
	if fitting != 2*7*6 {
		t.Errorf("%d sheets have a pose", fitting)
	}
}

// invalidImages returns images that are not valid, some of which are a sheet apart from one fault.
func invalidImages(sheet api.Image) []api.Image {
	last := len(sheet.Bits) - 1
	unused := slices.Clone(sheet.Bits)
	unused[last] |= 1
	list := []api.Image{
		{}, {W: 3}, {H: 3}, {Bits: []byte{0}}, {W: 1, H: 1},
		{W: sheet.W, H: sheet.H},
		{W: sheet.W, H: sheet.H, Bits: sheet.Bits[:last]},
		{W: sheet.W, H: sheet.H, Bits: append(slices.Clone(sheet.Bits), 0)},
		{W: sheet.W, H: sheet.H, Bits: unused},
		{W: -sheet.W, H: -sheet.H, Bits: sheet.Bits},
		{W: sheet.W, Bits: sheet.Bits},
		{H: sheet.H, Bits: sheet.Bits},
		{W: 513, H: 1, Bits: make([]byte, 65)},
		{W: 1, H: 513, Bits: make([]byte, 65)},
		{W: 1 << 32, H: 1 << 32, Bits: nil},
		{W: 2, H: 1 << 63 >> 1, Bits: make([]byte, 1)},
	}
	for _, side := range extremes {
		list = append(list, api.Image{W: side, H: sheet.H, Bits: sheet.Bits}, api.Image{W: sheet.W, H: side, Bits: sheet.Bits}, api.Image{W: side, H: side})
	}
	return list
}

// extremes are numbers whose sums, products and negatives overflow.
var extremes = []int{math.MinInt, math.MinInt + 1, -1 << 62, -1 << 32, 1 << 32, 1 << 62, math.MaxInt - 1, math.MaxInt}

// oddSheet is a sheet of an election whose image has unused bits.
func oddSheet(t *testing.T) (api.Election, picture) {
	t.Helper()
	e := single(t, 3, 2, 2, 6)
	sheet := draw(e, 1, full)
	if len(sheet)*len(sheet[0])%8 == 0 {
		t.Fatal("there are no unused bits")
	}
	return e, sheet
}

func TestInvalidImages(t *testing.T) {
	e, sheet := oddSheet(t)
	checkPose(t, e, sheet, api.Pose{Precinct: 1})
	for _, i := range invalidImages(sheet.toImage()) {
		checkNoPose(t, e, i, api.ErrImage)
		for _, pose := range []api.Pose{{}, {DX: 1, DY: -1}, {Turned: true}, {DX: math.MinInt, DY: math.MaxInt, Turned: true, Precinct: -1}} {
			if got := Straighten(i, pose); !reflect.DeepEqual(got, api.Image{}) {
				t.Errorf("Straighten of %s is %s", preview(i), preview(got))
			}
		}
	}
}

// TestInvalidElections has an election that is not valid together with images of all kinds.
func TestInvalidElections(t *testing.T) {
	good := town(t, 3)
	images := []api.Image{draw(good, 0, empty).toImage(), draw(good, 1, empty).toImage(), {W: 2, H: 2, Bits: []byte{0}}, {}, {W: -1, H: math.MaxInt}}
	elections := []api.Election{{}}
	for _, change := range []func(e *api.Election){
		func(e *api.Election) { e.Dots = 1 },
		func(e *api.Election) { e.Dots = 0 },
		func(e *api.Election) { e.Dots = -3 },
		func(e *api.Election) { e.Dots = math.MaxInt },
		func(e *api.Election) { e.Title = "\n" },
		func(e *api.Election) { e.Precincts = nil },
		func(e *api.Election) { e.Precincts = names(13) },
		func(e *api.Election) { e.Precincts[3] = e.Precincts[0] },
		func(e *api.Election) { e.Precincts = e.Precincts[:3] },
		func(e *api.Election) { e.Contests[1].Ranks = math.MinInt },
		func(e *api.Election) { e.Contests[2].Candidates = nil },
		func(e *api.Election) { e.Styles = e.Styles[1:] },
		func(e *api.Election) { e.Styles[1].Contests = []int{3} },
		func(e *api.Election) { e.Styles[2].Precincts = []int{0} },
		func(e *api.Election) { e.Scanners = 0 },
		func(e *api.Election) { e.Risk.Den = nil },
		func(e *api.Election) { e.Cell = 0 },
	} {
		e := town(t, 3)
		change(&e)
		elections = append(elections, e)
	}
	for _, e := range elections {
		for _, i := range images {
			checkNoPose(t, e, i, api.ErrForm)
		}
	}
}

// samples returns pictures of several sizes, whose rows begin and end at all places of a byte.
func samples() []picture {
	r := rand.New(rand.NewSource(14))
	list := []picture{{"#"}, {"."}, {"#.", ".#"}, {"##.", "...", "#.#"}}
	for _, size := range [][2]int{{1, 5}, {5, 1}, {3, 4}, {8, 8}, {9, 7}, {17, 6}} {
		list = append(list, makePicture(size[0], size[1], func(x, y int) bool { return r.Intn(2) == 0 }))
	}
	return list
}

// TestStraighten has all small shifts of some pictures, and precincts, which do not matter.
func TestStraighten(t *testing.T) {
	for _, p := range samples() {
		for dx := -9; dx <= 9; dx++ {
			for dy := -9; dy <= 9; dy++ {
				for _, turned := range []bool{false, true} {
					pose := api.Pose{DX: dx, DY: dy, Turned: turned, Precinct: dx * dy}
					checkStraighten(t, p, pose, p.straighten(pose))
				}
			}
		}
	}
}

// TestStraightenFar has shifts that leave nothing.
func TestStraightenFar(t *testing.T) {
	list := append(samples(), makePicture(512, 512, func(x, y int) bool { return true }))
	for _, p := range list {
		nothing := makePicture(len(p[0]), len(p), func(x, y int) bool { return false })
		for _, far := range append(slices.Clone(extremes), -513, -512, 512, 513) {
			for _, near := range []int{0, 1, -1, far} {
				for _, turned := range []bool{false, true} {
					checkStraighten(t, p, api.Pose{DX: far, DY: near, Turned: turned}, nothing)
					checkStraighten(t, p, api.Pose{DX: near, DY: far, Turned: turned, Precinct: far}, nothing)
				}
			}
		}
	}
	// One pixel is left of the greatest image, in one corner or in the opposite one.
	whole := list[len(list)-1]
	for _, turned := range []bool{false, true} {
		pose := api.Pose{DX: 511, DY: -511, Turned: turned}
		checkStraighten(t, whole, pose, makePicture(512, 512, func(x, y int) bool {
			if turned {
				return x == 511 && y == 0
			}
			return x == 0 && y == 511
		}))
	}
}
