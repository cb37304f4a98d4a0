package mark

import (
	"math"
	"math/rand"
	"slices"
	"strings"
	"testing"

	"election/api"
	"election/image"
	"election/layout"
)

// exampleSheet is a sheet of precinct 0 of an election with 2 dots, 4 candidates and 4 ranks, without its frame. Its targets have all sets of filled pixels, and the pixels around some of them are filled.
const exampleSheet = `
..................................
..................................
..................................
..................................
..................................
..................................
..........####....................
..........#..#....................
..........#..#..#..#...##.........
..........####....................
..............#...................
............#...#...#...#.........
................#..#...##.........
.................#................
..................####............
...........#...#..##.#.#..........
................#.##.#.##.........
..................####............
......................#...........
...........##..##..##..##.........
................#..#...##.........
.........................#........
..................................
..................................
..................................
..................................
..................................
..................................
..................................
..................................`

// exampleDensities are the numbers of filled pixels of the targets of exampleSheet.
var exampleDensities = []int{
	0, 1, 1, 2,
	1, 2, 2, 3,
	1, 2, 2, 3,
	2, 3, 3, 4,
}

// TestExample has the percents of the chapter's example.
func TestExample(t *testing.T) {
	e := single(t, 2, 1, 4, 4)
	e.Blank, e.Marked = 20, 50
	p := picture(strings.Fields(exampleSheet))
	var want []int
	for k, n := range exampleDensities {
		if got := Density(e, 0, p.toImage(), k); got != n {
			t.Errorf("the density of target %d is %d, want %d", k, got, n)
		}
		want = append(want, []int{api.MarkBlank, api.MarkDoubt, api.MarkFilled, api.MarkFilled, api.MarkFilled}[n])
	}
	checkJudgements(t, e, 0, p.toImage(), want)
}

// TestPercents has, for some sizes and percents, the least number of filled pixels that is not blank, and the least one that is filled.
func TestPercents(t *testing.T) {
	for _, x := range []struct{ dots, blank, marked, doubt, filled int }{
		{2, 20, 50, 1, 2}, {2, 1, 1, 1, 1}, {2, 25, 25, 1, 1}, {2, 26, 26, 2, 2}, {2, 25, 26, 1, 2}, {2, 24, 25, 1, 1},
		{2, 51, 75, 3, 3}, {2, 50, 76, 2, 4}, {2, 76, 100, 4, 4}, {2, 100, 100, 4, 4}, {2, 1, 100, 1, 4},
		{3, 11, 50, 1, 5}, {3, 12, 55, 2, 5}, {3, 22, 56, 2, 6}, {3, 23, 88, 3, 8}, {3, 89, 100, 9, 9}, {3, 33, 34, 3, 4},
		{4, 6, 18, 1, 3}, {4, 7, 19, 2, 4}, {4, 50, 93, 8, 15}, {4, 51, 94, 9, 16},
		{5, 4, 8, 1, 2}, {5, 5, 9, 2, 3}, {5, 20, 50, 5, 13}, {5, 96, 97, 24, 25},
		{6, 2, 3, 1, 2}, {6, 25, 75, 9, 27}, {6, 26, 76, 10, 28}, {6, 97, 98, 35, 36},
		{7, 2, 3, 1, 2}, {7, 1, 50, 1, 25}, {7, 49, 51, 25, 25}, {7, 52, 97, 26, 48}, {7, 98, 100, 49, 49},
	} {
		e := single(t, x.dots, 1, 1, 1)
		e.Blank, e.Marked = x.blank, x.marked
		_, _, corners := sheetOf(e, 0)
		i, _ := layout.Print(e, 0)
		for n := range x.dots*x.dots + 1 {
			want := api.MarkBlank
			if n >= x.filled {
				want = api.MarkFilled
			} else if n >= x.doubt {
				want = api.MarkDoubt
			}
			if got := Density(e, 0, i, 0); got != n {
				t.Errorf("the density is %d, want %d", got, n)
			}
			checkJudgements(t, e, 0, i, []int{want})
			i = image.Fill(i, corners[0].x+n%x.dots, corners[0].y+n/x.dots, 1, 1, true)
		}
	}
}

// TestAllPercents has all numbers of filled pixels with all percents.
func TestAllPercents(t *testing.T) {
	r := rand.New(rand.NewSource(12))
	for dots := 2; dots <= 7; dots++ {
		e := single(t, dots, 1, 7, 7)
		second := e.Contests[0]
		second.Name, second.Candidates, second.Ranks = "d", names(1), 1
		e.Contests, e.Styles[0].Contests = append(e.Contests, second), []int{0, 1}
		checkValid(t, e)
		counts := make([]int, 7*7+1)
		for k := range counts {
			counts[k] = k % (dots*dots + 1)
		}
		i := drawCounts(r, e, 0, counts, 2).toImage()
		for marked := 1; marked <= 100; marked++ {
			for blank := 1; blank <= marked; blank++ {
				e.Blank, e.Marked = blank, marked
				var want []int
				for _, n := range counts {
					want = append(want, judgement(e, n))
				}
				checkJudgements(t, e, 0, i, want)
			}
			if t.Failed() {
				t.FailNow()
			}
		}
	}
}

// TestEachPixel has pictures with one filled pixel, and with one that is not filled: it belongs to one target or to none.
func TestEachPixel(t *testing.T) {
	for _, e := range []api.Election{single(t, 2, 1, 2, 6), town(t, 2), single(t, 3, 2, 2, 2)} {
		for precinct := range e.Precincts {
			w, h, corners := sheetOf(e, precinct)
			inside := 0
			for y := range h {
				for x := range w {
					e.Blank, e.Marked = 1, 1
					one := makePicture(w, h, func(px, py int) bool { return px == x && py == y })
					if slices.Contains(checkSheet(t, e, precinct, one), api.MarkFilled) {
						inside++
					}
					e.Blank, e.Marked = 100, 100
					checkSheet(t, e, precinct, makePicture(w, h, func(px, py int) bool { return px != x || py != y }))
				}
				if t.Failed() {
					t.FailNow()
				}
			}
			if inside != len(corners)*e.Dots*e.Dots {
				t.Errorf("%d pixels belong to the targets of precinct %d", inside, precinct)
			}
		}
	}
}

// checkDrawn checks the judgements of drawn sheets, each target of which is filled or empty.
func checkDrawn(t *testing.T, e api.Election, precinct int, filled []int) {
	t.Helper()
	sheet, err := layout.Draw(e, precinct, filled)
	if err != api.OK {
		t.Fatal("Draw", err)
	}
	_, _, corners := sheetOf(e, precinct)
	want := make([]int, len(corners))
	for _, k := range filled {
		want[k] = api.MarkFilled
	}
	checkJudgements(t, e, precinct, sheet, want)
	for k := range want {
		n := 0
		if want[k] == api.MarkFilled {
			n = e.Dots * e.Dots
		}
		if got := Density(e, precinct, sheet, k); got != n {
			t.Errorf("the density of target %d of precinct %d is %d, want %d, with %s", k, precinct, got, n, preview(e))
		}
	}
}

// TestDrawnSheets fills one target after the other.
func TestDrawnSheets(t *testing.T) {
	for dots := 2; dots <= 7; dots++ {
		e := town(t, dots)
		for precinct, count := range []int{11, 6, 8, 11} {
			_, _, corners := sheetOf(e, precinct)
			if len(corners) != count {
				t.Fatalf("the sheet of precinct %d has %d targets", precinct, len(corners))
			}
			checkDrawn(t, e, precinct, nil)
			var all []int
			for k := range count {
				all = append(all, k)
				checkDrawn(t, e, precinct, []int{k})
				checkDrawn(t, e, precinct, all)
			}
		}
	}
}

// TestSizesOfContests has all sizes of a contest.
func TestSizesOfContests(t *testing.T) {
	for dots := 2; dots <= 7; dots++ {
		for candidates := 1; candidates <= 7; candidates++ {
			for ranks := 1; ranks <= 7; ranks++ {
				e := single(t, dots, 1, candidates, ranks)
				last := candidates*ranks - 1
				checkDrawn(t, e, 0, []int{last})
				checkDrawn(t, e, 0, []int{0, last / 2})
			}
		}
	}
}

// TestGreatestSheet has all limits at once.
func TestGreatestSheet(t *testing.T) {
	e := greatest(t)
	r := rand.New(rand.NewSource(13))
	for _, precinct := range []int{0, 7, 11} {
		checkDrawn(t, e, precinct, []int{0, 48, 49, 98, 195})
		counts := make([]int, 196)
		for k := range counts {
			counts[k] = r.Intn(50)
		}
		checkSheet(t, e, precinct, drawCounts(r, e, precinct, counts, 2))
	}
}

// TestRandomSheets has sheets of random elections. The pixels outside of the targets are empty, filled, or filled by chance.
func TestRandomSheets(t *testing.T) {
	r := rand.New(rand.NewSource(14))
	seen := map[int]int{}
	for round := range 400 {
		e := randomElection(t, r)
		for precinct := range e.Precincts {
			_, _, corners := sheetOf(e, precinct)
			counts := make([]int, len(corners))
			for k := range counts {
				counts[k] = r.Intn(e.Dots*e.Dots + 1)
			}
			for _, judged := range checkSheet(t, e, precinct, drawCounts(r, e, precinct, counts, round%3)) {
				seen[judged]++
			}
		}
		if t.Failed() {
			t.FailNow()
		}
	}
	for _, kind := range []int{api.MarkBlank, api.MarkFilled, api.MarkDoubt} {
		if seen[kind] < 1000 {
			t.Errorf("only %d targets are judged %d", seen[kind], kind)
		}
	}
}

// TestOtherSizes has images that are smaller or larger than the sheet: targets lie across their edges or beyond them.
func TestOtherSizes(t *testing.T) {
	r := rand.New(rand.NewSource(15))
	for _, e := range []api.Election{single(t, 3, 2, 1, 1), town(t, 2)} {
		precinct := len(e.Precincts) - 1
		w, h, _ := sheetOf(e, precinct)
		for width := 1; width <= w+9; width++ {
			for height := 1; height <= h+9; height++ {
				full := makePicture(width, height, func(x, y int) bool { return true })
				checkDensities(t, e, precinct, full)
				if width == w && height == h {
					checkSheet(t, e, precinct, full)
				} else {
					checkError(t, e, precinct, full.toImage(), api.ErrImage)
				}
			}
		}
		for range 300 {
			p := makePicture(1+r.Intn(2*w), 1+r.Intn(2*h), func(x, y int) bool { return r.Intn(2) == 0 })
			checkDensities(t, e, precinct, p)
		}
		for _, size := range [][2]int{{1, 512}, {512, 1}, {512, 512}, {h, w}} {
			p := makePicture(size[0], size[1], func(x, y int) bool { return (x+y)%3 > 0 })
			checkDensities(t, e, precinct, p)
			checkError(t, e, precinct, p.toImage(), api.ErrImage)
		}
	}
}

// TestSizeOfThePrecinct has sheets of one precinct that are judged as those of another one: only the size decides.
func TestSizeOfThePrecinct(t *testing.T) {
	e := town(t, 3)
	for drawn := range e.Precincts {
		w, h, _ := sheetOf(e, drawn)
		p := makePicture(w, h, func(x, y int) bool { return (x*x+y)%3 > 0 })
		for precinct := range e.Precincts {
			if (drawn == 1) == (precinct == 1) {
				checkSheet(t, e, precinct, p)
			} else {
				checkDensities(t, e, precinct, p)
				checkError(t, e, precinct, p.toImage(), api.ErrImage)
			}
		}
	}
}

// fullSheet returns the image of a precinct's sheet, all pixels of which are filled.
func fullSheet(e api.Election, precinct int) api.Image {
	w, h, _ := sheetOf(e, precinct)
	return makePicture(w, h, func(x, y int) bool { return true }).toImage()
}

// TestFrameDoesNotMatter has sheets whose frame is that of another precinct, or that have none.
func TestFrameDoesNotMatter(t *testing.T) {
	e := single(t, 4, 12, 3, 3)
	for precinct := range 12 {
		for drawn := range 12 {
			sheet, _ := layout.Draw(e, drawn, []int{1, 5})
			checkJudgements(t, e, precinct, sheet, []int{0, 1, 0, 0, 0, 1, 0, 0, 0})
		}
		w, h, _ := sheetOf(e, precinct)
		nothing, _ := image.New(w, h)
		checkJudgements(t, e, precinct, nothing, make([]int, 9))
		checkJudgements(t, e, precinct, fullSheet(e, precinct), slices.Repeat([]int{1}, 9))
	}
}

func TestNoSuchTarget(t *testing.T) {
	for _, e := range []api.Election{town(t, 2), greatest(t), single(t, 7, 1, 1, 1)} {
		for precinct := range e.Precincts {
			_, _, corners := sheetOf(e, precinct)
			count := len(corners)
			i := fullSheet(e, precinct)
			for _, target := range append(slices.Clone(extremes), -count, -2, -1, count, count+1, 196, 1000) {
				checkNoDensity(t, e, precinct, i, target)
			}
			for _, target := range []int{0, count - 1} {
				if got := Density(e, precinct, i, target); got != e.Dots*e.Dots {
					t.Errorf("the density of target %d is %d", target, got)
				}
			}
		}
	}
}

// invalidImages returns images that are not valid, some of which are a sheet apart from one fault.
func invalidImages(sheet api.Image) []api.Image {
	last := len(sheet.Bits) - 1
	unused := slices.Clone(sheet.Bits)
	unused[last] |= 1
	list := []api.Image{
		{}, {W: 3}, {H: 3}, {Bits: []byte{0}}, {W: 1, H: 1},
		{W: sheet.W, H: sheet.H},
		{W: sheet.W, H: sheet.H, Bits: sheet.Bits[:last]},
		{W: sheet.W, H: sheet.H, Bits: append(slices.Clone(sheet.Bits), 0)},
		{W: sheet.W, H: sheet.H, Bits: unused},
		{W: -sheet.W, H: -sheet.H, Bits: sheet.Bits},
		{W: sheet.W, Bits: sheet.Bits},
		{H: sheet.H, Bits: sheet.Bits},
		{W: 513, H: 1, Bits: make([]byte, 65)},
		{W: 1, H: 513, Bits: make([]byte, 65)},
		{W: 513, H: 513, Bits: slices.Repeat([]byte{0xff}, 513*513/8)},
		{W: 1 << 32, H: 1 << 32, Bits: nil},
		{W: 2, H: math.MaxInt, Bits: make([]byte, 1)},
	}
	for _, side := range extremes {
		list = append(list, api.Image{W: side, H: sheet.H, Bits: sheet.Bits}, api.Image{W: sheet.W, H: side, Bits: sheet.Bits}, api.Image{W: side, H: side})
	}
	return list
}

// oddSheet is an election and a sheet of its precinct 1 whose image has unused bits. All of its targets are filled.
func oddSheet(t *testing.T) (api.Election, api.Image) {
	t.Helper()
	e := single(t, 3, 2, 2, 6)
	sheet, _ := layout.Draw(e, 1, []int{0, 1, 2, 3, 4, 5, 6, 7, 8, 9, 10, 11})
	if sheet.W*sheet.H%8 == 0 {
		t.Fatal("there are no unused bits")
	}
	checkJudgements(t, e, 1, sheet, slices.Repeat([]int{1}, 12))
	return e, sheet
}

func TestInvalidImages(t *testing.T) {
	e, sheet := oddSheet(t)
	for _, i := range invalidImages(sheet) {
		for precinct := range e.Precincts {
			checkError(t, e, precinct, i, api.ErrImage)
			for target := range 12 {
				checkNoDensity(t, e, precinct, i, target)
			}
		}
	}
}

// TestNoSuchPrecinct has precincts that do not exist together with images of all kinds.
func TestNoSuchPrecinct(t *testing.T) {
	odd, sheet := oddSheet(t)
	for _, e := range []api.Election{town(t, 2), odd, greatest(t), single(t, 2, 1, 1, 1)} {
		count := len(e.Precincts)
		images := append(invalidImages(sheet), sheet, fullSheet(e, 0), fullSheet(e, count-1))
		for _, precinct := range append(slices.Clone(extremes), -2, -1, count, count+1, 13, 15, 16, 255, 256) {
			for _, i := range images {
				checkError(t, e, precinct, i, api.ErrRange)
				for _, target := range []int{-1, 0, 1, 1000} {
					checkNoDensity(t, e, precinct, i, target)
				}
			}
		}
	}
}

// TestInvalidElections has an election that is not valid together with everything else that can be wrong.
func TestInvalidElections(t *testing.T) {
	good := town(t, 2)
	images := []api.Image{fullSheet(good, 0), fullSheet(good, 1), {}, {W: 2, H: 2, Bits: []byte{1}}, {W: -1, H: math.MaxInt}}
	elections := []api.Election{{}}
	for _, change := range []func(e *api.Election){
		func(e *api.Election) { e.Dots = 0 },
		func(e *api.Election) { e.Dots = 1 },
		func(e *api.Election) { e.Dots = 8 },
		func(e *api.Election) { e.Dots = -2 },
		func(e *api.Election) { e.Dots = math.MinInt },
		func(e *api.Election) { e.Dots = 1 << 62 },
		func(e *api.Election) { e.Blank = 0 },
		func(e *api.Election) { e.Blank = -1 },
		func(e *api.Election) { e.Blank = 51 },
		func(e *api.Election) { e.Blank = math.MaxInt },
		func(e *api.Election) { e.Marked = 0 },
		func(e *api.Election) { e.Marked = 19 },
		func(e *api.Election) { e.Marked = 101 },
		func(e *api.Election) { e.Marked = math.MinInt },
		func(e *api.Election) { e.Title = "\n" },
		func(e *api.Election) { e.Precincts = nil },
		func(e *api.Election) { e.Precincts = names(13) },
		func(e *api.Election) { e.Precincts[3] = e.Precincts[0] },
		func(e *api.Election) { e.Contests[1].Ranks = math.MinInt },
		func(e *api.Election) { e.Contests[0].Candidates = nil },
		func(e *api.Election) { e.Styles = e.Styles[:1] },
		func(e *api.Election) { e.Styles[1].Contests = []int{3} },
		func(e *api.Election) { e.Styles[2].Precincts = []int{0} },
		func(e *api.Election) { e.Scanners = 0 },
		func(e *api.Election) { e.Risk.Den = nil },
		func(e *api.Election) { e.Cell = 0 },
	} {
		e := town(t, 2)
		change(&e)
		elections = append(elections, e)
	}
	for _, e := range elections {
		for _, precinct := range append(slices.Clone(extremes), -1, 0, 1, 2, 3, 4) {
			for _, i := range images {
				checkError(t, e, precinct, i, api.ErrForm)
				for _, target := range []int{-1, 0, 5, 1000} {
					checkNoDensity(t, e, precinct, i, target)
				}
			}
		}
	}
}
