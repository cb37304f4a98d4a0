package record

import (
	"fmt"
	"math/rand"
	"slices"
	"testing"

	"election/align"
	"election/api"
	"election/image"
	"election/layout"
	"election/mark"
	"election/ranking"
	"election/schema"
	"election/syntax"
)

// poses returns all poses in which a sheet can lie.
func poses() []api.Pose {
	var list []api.Pose
	for _, turned := range []bool{false, true} {
		for dx := -3; dx <= 3; dx++ {
			for dy := -3; dy <= 3; dy++ {
				list = append(list, api.Pose{DX: dx, DY: dy, Turned: turned})
			}
		}
	}
	return list
}

// draw returns a sheet with these filled targets.
func draw(t *testing.T, e api.Election, precinct int, filled ...int) api.Image {
	t.Helper()
	sheet, err := layout.Draw(e, precinct, filled)
	if err != api.OK {
		t.Fatal("Draw", precinct, filled, err)
	}
	return sheet
}

// TestReadExample has a sheet that was turned and shifted by two pixels.
func TestReadExample(t *testing.T) {
	e := single(t, 2, 2, 3, 3)
	// The targets of a candidate come one after the other.
	sheet := draw(t, e, 1, 0, 5, 8)
	want := api.Record{Precinct: 1, Votes: []api.Vote{{Ranks: [][]int{{0}, {}, {1, 2}}}}}
	checkRead(t, e, sheet, want)
	checkRead(t, e, image.Shift(image.Turn(sheet), 2, 2), want)
	want.Doubt = true
	smudged := image.Fill(sheet, 15, 7, 1, 1, true)
	checkRead(t, e, smudged, want)
	want.Doubt, want.Votes[0].Ranks[1] = false, []int{0}
	checkRead(t, e, image.Fill(smudged, 16, 7, 1, 1, true), want)
}

// TestReadPrecincts has the votes of several contests, in the order of the style.
func TestReadPrecincts(t *testing.T) {
	e := town(t)
	for _, precinct := range []int{0, 3} {
		want := ballot()
		want.Precinct = precinct
		checkRead(t, e, draw(t, e, precinct, 0, 3, 8, 10, 7), want)
	}
	checkRead(t, e, draw(t, e, 1, 4, 1, 3), api.Record{Precinct: 1, Votes: []api.Vote{{Ranks: [][]int{{1}, {0, 1}, {}}}}})
	checkRead(t, e, draw(t, e, 2, 7, 1, 2), api.Record{Precinct: 2, Votes: []api.Vote{{Contest: 2, Ranks: [][]int{{1}, {0, 3}}}}})
}

// TestReadPoses has sheets in all poses, with targets of all degrees.
func TestReadPoses(t *testing.T) {
	r := rand.New(rand.NewSource(23))
	for dots := 2; dots <= 7; dots++ {
		e := town(t)
		e.Dots = dots
		for precinct := range e.Precincts {
			for _, pose := range poses() {
				counts := make([]int, targetsOf(e, precinct))
				for k := range counts {
					counts[k] = r.Intn(dots*dots + 1)
				}
				sheet, want := drawCounts(t, r, e, precinct, counts)
				checkRead(t, e, lay(sheet, pose), want)
			}
		}
	}
}

// TestReadDegrees has a sheet with one target that has each number of filled pixels, while the others are blank or filled.
func TestReadDegrees(t *testing.T) {
	r := rand.New(rand.NewSource(24))
	e := town(t)
	e.Dots, e.Blank, e.Marked = 3, 34, 67
	doubtful := 0
	for precinct := range e.Precincts {
		for _, other := range []int{0, 9} {
			counts := slices.Repeat([]int{other}, targetsOf(e, precinct))
			for k := range counts {
				for n := range 10 {
					counts[k] = n
					sheet, want := drawCounts(t, r, e, precinct, counts)
					checkRead(t, e, sheet, want)
					if want.Doubt {
						doubtful++
					}
				}
				counts[k] = other
			}
		}
	}
	// 4, 5 or 6 of 9 pixels are doubtful.
	if doubtful != 3*2*(11+6+8+11) {
		t.Errorf("%d sheets are doubtful", doubtful)
	}
}

func TestReadRandomSheets(t *testing.T) {
	r := rand.New(rand.NewSource(25))
	all := poses()
	for range 60 {
		e := randomElection(t, r)
		for precinct := range e.Precincts {
			counts := make([]int, targetsOf(e, precinct))
			for k := range counts {
				counts[k] = r.Intn(e.Dots*e.Dots+1) * r.Intn(2)
			}
			sheet, want := drawCounts(t, r, e, precinct, counts)
			checkRead(t, e, lay(sheet, all[r.Intn(len(all))]), want)
		}
	}
}

// TestReadGreatest has all limits at once.
func TestReadGreatest(t *testing.T) {
	r := rand.New(rand.NewSource(26))
	e := greatest(t)
	for precinct := range e.Precincts {
		for _, n := range []int{0, 15, 49} {
			counts := slices.Repeat([]int{n}, targetsOf(e, precinct))
			counts[195] = 25
			sheet, want := drawCounts(t, r, e, precinct, counts)
			checkRead(t, e, lay(sheet, api.Pose{DX: 3, DY: -3, Turned: precinct%2 == 0}), want)
		}
	}
}

// TestReadSteps compares Read with the steps it consists of, for images of which some have no pose, and some have several.
func TestReadSteps(t *testing.T) {
	r := rand.New(rand.NewSource(27))
	all := poses()
	e := town(t)
	found := 0
	for range 800 {
		scan, err := image.New(34, 30)
		if err != api.OK {
			t.Fatal("New", err)
		}
		for range 1 + r.Intn(3) {
			precinct := []int{0, 2, 3}[r.Intn(3)]
			sheet := draw(t, e, precinct, r.Perm(targetsOf(e, precinct))[:4]...)
			scan = merge(scan, lay(sheet, all[r.Intn(len(all))]))
		}
		for range r.Intn(5) {
			scan = image.Fill(scan, r.Intn(34), r.Intn(30), 1, 1, r.Intn(2) == 0)
		}
		pose, err := align.Find(e, scan)
		if err != api.OK {
			checkNoRead(t, e, scan, err)
			continue
		}
		found++
		judged, _ := mark.Judge(e, pose.Precinct, align.Straighten(scan, pose))
		votes, doubt, _ := ranking.Votes(e, pose.Precinct, judged)
		checkRead(t, e, scan, api.Record{Precinct: pose.Precinct, Votes: votes, Doubt: doubt})
	}
	if found < 100 || found > 780 {
		t.Errorf("%d images have a pose", found)
	}
}

// merge fills the pixels of both images.
func merge(a, b api.Image) api.Image {
	a.Bits = slices.Clone(a.Bits)
	for k, bits := range b.Bits {
		a.Bits[k] |= bits
	}
	return a
}

// TestTwoSheets has two sheets on one image, the first of which is found before the other one.
func TestTwoSheets(t *testing.T) {
	e := town(t)
	first, second := draw(t, e, 0, 0, 3, 7, 8, 10), draw(t, e, 2)
	want, _ := Read(e, first)
	if !equalRecords(want, ballot()) {
		t.Fatal("the sheet has the record", want)
	}
	both := merge(image.Shift(first, -1, 1), image.Turn(second))
	pose, _ := align.Find(e, both)
	if pose != (api.Pose{DX: -1, DY: 1}) {
		t.Fatal("the pose is", pose)
	}
	checkRead(t, e, both, want)
}

// TestNoPose has images without a frame, with a damaged one, or of another size.
func TestNoPose(t *testing.T) {
	e := town(t)
	sheet := draw(t, e, 0, 0, 3)
	for _, size := range [][2]int{{34, 30}, {1, 1}, {512, 512}, {33, 30}, {34, 29}, {30, 34}} {
		blank, err := image.New(size[0], size[1])
		if err != api.OK {
			t.Fatal("New", err)
		}
		checkNoRead(t, e, blank, api.ErrImage)
		checkNoRead(t, e, image.Fill(blank, 0, 0, 512, 512, true), api.ErrImage)
	}
	checkNoRead(t, e, image.Fill(sheet, 4, 4, 1, 1, false), api.ErrImage)
	checkNoRead(t, e, image.Fill(sheet, 11, 3, 1, 1, true), api.ErrImage)
	for _, pose := range []api.Pose{{DX: 4}, {DY: -4}, {DX: -4, DY: 4, Turned: true}} {
		checkNoRead(t, e, lay(sheet, pose), api.ErrImage)
	}
	other := single(t, 2, 12, 2, 6)
	checkNoRead(t, e, draw(t, other, 11), api.ErrImage)
	checkNoRead(t, other, sheet, api.ErrImage)
}

// invalidImages returns images that are not valid, some of which are a sheet apart from one fault.
func invalidImages(sheet api.Image) []api.Image {
	last := len(sheet.Bits) - 1
	unused := slices.Clone(sheet.Bits)
	unused[last] |= 1
	list := []api.Image{
		{}, {W: 3}, {H: 3}, {Bits: []byte{0}}, {W: 1, H: 1},
		{W: sheet.W, H: sheet.H},
		{W: sheet.W, H: sheet.H, Bits: sheet.Bits[:last]},
		{W: sheet.W, H: sheet.H, Bits: append(slices.Clone(sheet.Bits), 0)},
		{W: sheet.W, H: sheet.H, Bits: unused},
		{W: -sheet.W, H: -sheet.H, Bits: sheet.Bits},
		{W: 513, H: 1, Bits: make([]byte, 65)},
		{W: 1 << 32, H: 1 << 32},
	}
	for _, side := range extremes {
		list = append(list, api.Image{W: side, H: sheet.H, Bits: sheet.Bits}, api.Image{W: sheet.W, H: side, Bits: sheet.Bits}, api.Image{W: side, H: side})
	}
	return list
}

// TestInvalidImages has a sheet whose image has unused bits.
func TestInvalidImages(t *testing.T) {
	e := single(t, 3, 2, 2, 6)
	sheet := draw(t, e, 1, 3)
	if sheet.W*sheet.H%8 == 0 {
		t.Fatal("there are no unused bits")
	}
	checkRead(t, e, sheet, api.Record{Precinct: 1, Votes: []api.Vote{{Ranks: [][]int{{}, {}, {}, {0}, {}, {}}}}})
	for _, i := range invalidImages(sheet) {
		checkNoRead(t, e, i, api.ErrImage)
	}
}

// TestReadInvalidElections: an election that is not valid comes before an image that is not.
func TestReadInvalidElections(t *testing.T) {
	good := town(t)
	blank, _ := image.New(34, 30)
	images := append(invalidImages(draw(t, good, 1)), draw(t, good, 0), draw(t, good, 1, 2), draw(t, good, 2, 3), blank)
	for _, e := range invalidElections(t) {
		for _, i := range images {
			checkNoRead(t, e, i, api.ErrForm)
		}
	}
}

const definition = `election "Town" {
  scan { dots 2; blank 20; marked 50; }
  scanners { count 1; batch 8; }
  precincts { names north, "South 1"; }
  contest mayor {
    method irv; seats 1; ranks 3;
    ties backwards; overvote stop; skip close;
    candidates ann, bob, cem;
  }
  style all { precincts north, "South 1"; contests mayor; }
  audit { risk 1/20; seed "8 1 6"; }
  privacy { cell 3; }
}`

func ExampleRead() {
	source, _ := syntax.Parse(definition)
	election, _ := schema.Compile(source)
	sheet, _ := layout.Draw(election, 1, []int{0, 4})
	r, err := Read(election, image.Shift(image.Turn(sheet), 2, -3))
	list, ok := Prefs(election, r, 0)
	fmt.Println(r.Precinct, r.Votes[0].Ranks, r.Doubt, err)
	fmt.Println(list, ok)
	fmt.Println(Encode(election, r))
	// Output:
	// 1 [[0] [1] []] false 0
	// [0 1] true
	// [1 0 1 2 0]
}
