package guide

import (
	"iter"
	"slices"

	"azalai/api"
)

func validArea(a api.Area) bool {
	// The first four halves keep all places of an area from being without an end.
	first := sides(api.Span{}, api.Span{})
	if len(a.Halves) < len(first) || len(a.Halves) > api.MaxHalves || !all(a.Halves, validHalf) {
		return false
	}
	for i, side := range first {
		if h := a.Halves[i]; h.A != side.A || h.B != side.B {
			return false
		}
	}
	return true
}

func validHalf(h api.Half) bool {
	return inRange(h.A, -api.MaxPart, api.MaxPart) && inRange(h.B, -api.MaxPart, api.MaxPart) && (h.A != 0 || h.B != 0) &&
		inRange(h.C, -api.MaxEdge, api.MaxEdge)
}

// sides returns the halves of all places in two spans.
func sides(east, north api.Span) []api.Half {
	return []api.Half{
		{A: 1, B: 0, C: east.Hi}, {A: -1, B: 0, C: -east.Lo},
		{A: 0, B: 1, C: north.Hi}, {A: 0, B: -1, C: -north.Lo},
	}
}

// corner is a place where the edges of two halves meet: x to the east and y to the north, in parts of a metre. Rounded, it might no longer be in the area.
type corner struct{ x, y, part int }

// isIn tells whether a corner is in a half. Nothing overflows: x and y are at most 2 * MaxPart * MaxEdge, and part at most 2 * MaxPart * MaxPart, so that all numbers are below 10^18.
func (c corner) isIn(h api.Half) bool { return h.A*c.x+h.B*c.y <= h.C*c.part }

// meet returns the corner of two halves, and false if their edges lie in one direction.
func meet(g, h api.Half) (corner, bool) {
	c := corner{x: g.C*h.B - h.C*g.B, y: g.A*h.C - h.A*g.C, part: g.A*h.B - h.A*g.B}
	if c.part < 0 {
		c = corner{x: -c.x, y: -c.y, part: -c.part}
	}
	return c, c.part > 0
}

// corners yields the corners of the places that are in all of some halves, some of them more than once.
func corners(halves []api.Half) iter.Seq[corner] {
	return func(yield func(corner) bool) {
		for i, g := range halves {
			for _, h := range halves[:i] {
				c, ok := meet(g, h)
				if ok && all(halves, c.isIn) && !yield(c) {
					return
				}
			}
		}
	}
}

// hasPlace tells whether some place is in all of some halves, those of an area among them: its sides give it a corner if it has any place.
func hasPlace(halves []api.Half) bool {
	for range corners(halves) {
		return true
	}
	return false
}

// known tells whether those who are in an area are in some other halves, too.
func known(area, others []api.Half) uint8 {
	if !hasPlace(slices.Concat(area, others)) {
		return api.KnownNo
	}
	near := uint8(api.KnownYes)
	// If all corners are near, so is each place between them.
search:
	for c := range corners(area) {
		for _, h := range others {
			if !c.isIn(h) {
				near = api.KnownOpen
				break search
			}
		}
	}
	return near
}
