package align

import (
	"cmp"
	"fmt"
	"math/rand"
	"reflect"
	"slices"
	"strings"
	"testing"

	"election/api"
	"election/schema"
)

// A picture has the rows of an image, in which # is a filled pixel. The reference works on pictures and on the election alone.
type picture []string

func makePicture(w, h int, filled func(x, y int) bool) picture {
	var p picture
	for y := range h {
		row := []byte(strings.Repeat(".", w))
		for x := range w {
			if filled(x, y) {
				row[x] = '#'
			}
		}
		p = append(p, string(row))
	}
	return p
}

func (p picture) filled(x, y int) bool {
	return y >= 0 && y < len(p) && x >= 0 && x < len(p[y]) && p[y][x] == '#'
}

// change returns a copy with one changed pixel.
func (p picture) change(x, y int) picture {
	row := []byte(p[y])
	row[x] ^= '#' ^ '.'
	q := slices.Clone(p)
	q[y] = string(row)
	return q
}

func (p picture) toImage() api.Image {
	i := api.Image{W: len(p[0]), H: len(p)}
	i.Bits = make([]byte, (i.W*i.H+7)/8)
	for n, pixel := range strings.Join(p, "") {
		if pixel == '#' {
			i.Bits[n/8] |= 128 >> (n % 8)
		}
	}
	return i
}

func toPicture(i api.Image) picture {
	return makePicture(i.W, i.H, func(x, y int) bool {
		n := y*i.W + x
		return i.Bits[n/8]&(128>>(n%8)) != 0
	})
}

// turn reverses the rows and their order.
func (p picture) turn() picture {
	return makePicture(len(p[0]), len(p), func(x, y int) bool { return p[len(p)-1-y][len(p[0])-1-x] == '#' })
}

// shift moves the picture to the right and down, by small numbers.
func (p picture) shift(dx, dy int) picture {
	return makePicture(len(p[0]), len(p), func(x, y int) bool { return p.filled(x-dx, y-dy) })
}

// lay returns how a sheet looks in a pose.
func (p picture) lay(pose api.Pose) picture {
	if pose.Turned {
		p = p.turn()
	}
	return p.shift(pose.DX, pose.DY)
}

// straighten undoes lay.
func (p picture) straighten(pose api.Pose) picture {
	p = p.shift(-pose.DX, -pose.DY)
	if pose.Turned {
		p = p.turn()
	}
	return p
}

// merge fills the pixels that any of the pictures fills.
func merge(pictures ...picture) picture {
	return makePicture(len(pictures[0][0]), len(pictures[0]), func(x, y int) bool {
		return slices.ContainsFunc(pictures, func(p picture) bool { return p.filled(x, y) })
	})
}

// rows returns the cells of the sheet of a precinct: # is a cell of the frame, o a target, and . any other cell.
func rows(e api.Election, precinct int) []string {
	code := fmt.Sprintf("%04b", precinct+1)
	code += fmt.Sprint(strings.Count(code, "1") % 2)
	list := []string{"##" + strings.NewReplacer("0", ".", "1", "#").Replace(code)}
	width := 7
	for _, style := range e.Styles {
		if !slices.Contains(style.Precincts, precinct) {
			continue
		}
		for _, contest := range style.Contests {
			c := e.Contests[contest]
			list = append(list, slices.Repeat([]string{"#." + strings.Repeat("o", c.Ranks)}, len(c.Candidates))...)
			list = append(list, "#")
			width = max(width, 2+c.Ranks)
		}
	}
	for i, row := range list {
		list[i] = row + strings.Repeat(".", width-len(row))
	}
	return list
}

// draw returns the picture of a precinct's sheet, on which the targets that filled tells are filled.
func draw(e api.Election, precinct int, filled func(target int) bool) picture {
	cells := rows(e, precinct)
	chosen, targets := map[[2]int]bool{}, 0
	for r, row := range cells {
		for c, kind := range row {
			chosen[[2]int{c, r}] = kind == '#' || kind == 'o' && filled(targets)
			if kind == 'o' {
				targets++
			}
		}
	}
	d := e.Dots
	return makePicture(6+2*d*len(cells[0]), 6+2*d*len(cells), func(x, y int) bool {
		x, y = x-3, y-3
		return x >= 0 && y >= 0 && x%(2*d) < d && y%(2*d) < d && chosen[[2]int{x / (2 * d), y / (2 * d)}]
	})
}

func empty(int) bool { return false }

func full(int) bool { return true }

// some fills about a half of the targets.
func some(r *rand.Rand) func(int) bool { return func(int) bool { return r.Intn(2) == 0 } }

// A pixel is given by its column and its row.
type pixel struct{ x, y int }

// pixels returns the pixels of a precinct's sheet that Find compares, and whether they are filled on the sheet.
func pixels(e api.Election, precinct int) map[pixel]bool {
	compared, cells := map[pixel]bool{}, rows(e, precinct)
	for r, row := range cells {
		for c, kind := range row {
			if r > 0 && c > 0 || c > 6 {
				continue
			}
			for x := range e.Dots {
				for y := range e.Dots {
					compared[pixel{3 + 2*e.Dots*c + x, 3 + 2*e.Dots*r + y}] = kind == '#'
				}
			}
		}
	}
	return compared
}

// shows reports whether a picture, once straightened, has the pixels of a frame.
func (p picture) shows(frame map[pixel]bool, pose api.Pose) bool {
	for at, want := range frame {
		x, y := at.x, at.y
		if pose.Turned {
			x, y = len(p[0])-1-x, len(p)-1-y
		}
		if p.filled(x+pose.DX, y+pose.DY) != want {
			return false
		}
	}
	return true
}

// hasSize reports whether a picture has the size of a precinct's sheet.
func (p picture) hasSize(e api.Election, precinct int) bool {
	cells := rows(e, precinct)
	return len(p[0]) == 6+2*e.Dots*len(cells[0]) && len(p) == 6+2*e.Dots*len(cells)
}

// fits reports whether a picture has the size of a precinct's sheet and, once straightened, its frame.
func (p picture) fits(e api.Election, precinct int, pose api.Pose) bool {
	return p.hasSize(e, precinct) && p.shows(pixels(e, precinct), pose)
}

// poses returns all poses, of precinct 0, in the order of the chapter.
func poses() []api.Pose {
	var list []api.Pose
	for dx := -3; dx <= 3; dx++ {
		for dy := -3; dy <= 3; dy++ {
			list = append(list, api.Pose{DX: dx, DY: dy, Turned: true}, api.Pose{DX: dx, DY: dy})
		}
	}
	key := func(p api.Pose) []int {
		turned := map[bool]int{true: 1}[p.Turned]
		return []int{turned, abs(p.DX) + abs(p.DY), p.DY, p.DX}
	}
	slices.SortFunc(list, func(a, b api.Pose) int { return slices.Compare(key(a), key(b)) })
	return list
}

func abs(n int) int { return cmp.Compare(n, 0) * n }

// find returns the first pose of a picture, or false if there is none.
func (p picture) find(e api.Election) (api.Pose, bool) {
	var precincts []int
	var frames []map[pixel]bool
	for precinct := range e.Precincts {
		if p.hasSize(e, precinct) {
			precincts, frames = append(precincts, precinct), append(frames, pixels(e, precinct))
		}
	}
	for _, pose := range poses() {
		for k, frame := range frames {
			if p.shows(frame, pose) {
				pose.Precinct = precincts[k]
				return pose, true
			}
		}
	}
	return api.Pose{}, false
}

// checkPose checks that Find returns a pose.
func checkPose(t *testing.T, e api.Election, p picture, want api.Pose) {
	t.Helper()
	if got, err := Find(e, p.toImage()); err != api.OK || got != want {
		t.Errorf("Find is %+v, %d; want %+v, with %d dots and the picture\n%s", got, err, want, e.Dots, strings.Join(p, "\n"))
	}
}

// checkNoPose checks that Find returns an error.
func checkNoPose(t *testing.T, e api.Election, i api.Image, want api.Errno) {
	t.Helper()
	if got, err := Find(e, i); err != want || got != (api.Pose{}) {
		t.Errorf("Find is %+v, %d; want the error %d, with %s and the image %s", got, err, want, preview(e), preview(i))
	}
}

// checkFind compares Find with the reference, and returns the pose and whether there is one.
func checkFind(t *testing.T, e api.Election, p picture) (api.Pose, bool) {
	t.Helper()
	pose, ok := p.find(e)
	if ok {
		checkPose(t, e, p, pose)
	} else {
		checkNoPose(t, e, p.toImage(), api.ErrImage)
	}
	return pose, ok
}

// checkStraighten checks that Straighten returns a picture.
func checkStraighten(t *testing.T, p picture, pose api.Pose, want picture) {
	t.Helper()
	if got := Straighten(p.toImage(), pose); !reflect.DeepEqual(got, want.toImage()) {
		t.Errorf("Straighten with %+v is %s; want\n%s\nof the picture\n%s", pose, preview(got), strings.Join(want, "\n"), strings.Join(p, "\n"))
	}
}

// preview describes the beginning of a value, for the messages of tests.
func preview(value any) string {
	text := fmt.Sprintf("%+v", value)
	return text[:min(len(text), 300)]
}

// names returns count different names.
func names(count int) []string {
	var list []string
	for i := range count {
		list = append(list, fmt.Sprintf("n%d", i))
	}
	return list
}

// single returns an election with this number of precincts, which have one style, with one contest.
func single(t testing.TB, dots, precincts, candidates, ranks int) api.Election {
	t.Helper()
	e := api.Election{
		Dots: dots, Blank: 20, Marked: 50,
		Precincts: names(precincts),
		Contests:  []api.Contest{{Name: "c", Candidates: names(candidates), Method: api.MethodIRV, Seats: 1, Ranks: ranks, Ties: api.TieLot, Overvote: api.OvervoteStop, Skip: api.SkipTwo}},
		Styles:    []api.Style{{Name: "s", Contests: []int{0}}},
		Scanners:  1, Batch: 1, Cell: 1,
		Risk: api.Ratio{Num: api.Nat{1}, Den: api.Nat{20}},
	}
	for p := range precincts {
		e.Styles[0].Precincts = append(e.Styles[0].Precincts, p)
	}
	checkValid(t, e)
	return e
}

// town has four precincts with three styles, two of which have sheets of the same size: those of the precincts 0, 2 and 3.
func town(t testing.TB, dots int) api.Election {
	t.Helper()
	e := single(t, dots, 4, 2, 3)
	second, third := e.Contests[0], e.Contests[0]
	second.Name, second.Candidates, second.Ranks = "d", names(1), 5
	third.Name, third.Candidates, third.Ranks = "e", names(4), 2
	e.Contests = append(e.Contests, second, third)
	e.Styles = []api.Style{
		{Name: "s", Precincts: []int{1}, Contests: []int{0}},
		{Name: "r", Precincts: []int{3, 0}, Contests: []int{1, 0}},
		{Name: "q", Precincts: []int{2}, Contests: []int{2}},
	}
	checkValid(t, e)
	return e
}

func checkValid(t testing.TB, e api.Election) {
	t.Helper()
	if !schema.Valid(e) {
		t.Fatalf("the election of the test is not valid: %v", e)
	}
}
