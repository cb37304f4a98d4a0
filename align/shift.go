package align

import (
	"cmp"
	"slices"
)

const (
	reach = 3 // pixels by which a sheet may be shifted in each direction
	span  = 2*reach + 1
)

type shift struct{ dx, dy int }

// shiftOrder returns all shifts in the order in which they are examined: the shortest first, then by dy, then by dx.
func shiftOrder() [span * span]shift {
	var order [span * span]shift
	for n := range order {
		order[n] = shift{dx: n%span - reach, dy: n/span - reach}
	}
	// They are in the order of dy and dx already, which a stable sort keeps.
	slices.SortStableFunc(order[:], func(a, b shift) int { return cmp.Compare(a.length(), b.length()) })
	return order
}

func (s shift) length() int { return max(s.dx, -s.dx) + max(s.dy, -s.dy) }
