package align

import (
	"election/api"
	"election/image"
	"election/layout"
)

const (
	margin      = 3 // pixels between the edge of a sheet and its cells
	codeColumns = 7 // columns up to the end of the code
)

// A frame is what the sheet of a precinct has in its column 0 and in the first cells of its row 0.
type frame struct {
	precinct, dots int
	cells          []cell
}

// A cell is given by its upper left pixel and the number of its filled pixels. On an empty sheet, this is all of them or none.
type cell struct{ x, y, filled int }

// framesOf returns the frames of the precincts of a valid election whose sheets have this size, in the order of the precincts.
func framesOf(e api.Election, w, h int) []frame {
	var frames []frame
	for precinct := range e.Precincts {
		l, _ := layout.Make(e, precinct) // a valid election has a layout for each of its precincts
		if l.W == w && l.H == h {
			empty, _ := layout.Print(e, precinct)
			frames = append(frames, frameOf(l, empty))
		}
	}
	return frames
}

// frameOf reads the frame off an empty sheet.
func frameOf(l api.Layout, empty api.Image) frame {
	f := frame{precinct: l.Precinct, dots: l.Dots}
	step := 2 * l.Dots
	rows := (l.H - 2*margin) / step
	for column := range codeColumns {
		f.add(empty, margin+step*column, margin)
	}
	for row := 1; row < rows; row++ {
		f.add(empty, margin, margin+step*row)
	}
	return f
}

// add adds the cell of the empty sheet with this upper left pixel.
func (f *frame) add(empty api.Image, x, y int) {
	f.cells = append(f.cells, cell{x, y, image.Count(empty, x, y, f.dots, f.dots)})
}

// fits reports whether a sheet that is shifted by dx and dy has the cells of the frame.
func (f frame) fits(sheet api.Image, dx, dy int) bool {
	for _, c := range f.cells {
		if image.Count(sheet, c.x+dx, c.y+dy, f.dots, f.dots) != c.filled {
			return false
		}
	}
	return true
}
