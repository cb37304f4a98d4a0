package layout

import (
	"math/bits"

	"election/api"
	"election/image"
)

const (
	codeColumn = 2 // of the code's most significant bit
	codeBits   = 4
)

// drawFrame returns an image of the layout's size on which exactly the cells of the frame are filled.
func drawFrame(l api.Layout) api.Image {
	sheet, _ := image.New(l.W, l.H) // a valid election has no greater sheets
	for row := range rowCount(l) {
		sheet = fillCell(sheet, 0, row, l.Dots)
	}
	sheet = fillCell(sheet, 1, 0, l.Dots)
	return drawCode(sheet, uint(l.Precinct+1), l.Dots)
}

// rowCount returns the number of rows of cells, which a layout tells only by its height.
func rowCount(l api.Layout) int { return (l.H - side(0, l.Dots)) / (2 * l.Dots) }

// drawCode fills the cells of a sheet that tell the bits of its code, and whether an odd number of them is 1.
func drawCode(sheet api.Image, code uint, dots int) api.Image {
	for k := range codeBits {
		if code>>(codeBits-1-k)&1 == 1 {
			sheet = fillCell(sheet, codeColumn+k, 0, dots)
		}
	}
	if bits.OnesCount(code)%2 == 1 {
		sheet = fillCell(sheet, codeColumn+codeBits, 0, dots)
	}
	return sheet
}

// fillCell returns a copy of a sheet on which a cell is filled.
func fillCell(sheet api.Image, column, row, dots int) api.Image {
	return image.Fill(sheet, place(column, dots), place(row, dots), dots, dots, true)
}
