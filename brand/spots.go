package brand

import (
	"cmp"
	"slices"

	"azalai/api"
)

// validMarks tells whether marks are valid, with no spot twice.
func validMarks(marks []api.Mark) bool {
	var marked [api.MaxSpots]bool
	for _, m := range marks {
		if m.Spot < 0 || m.Spot >= api.MaxSpots || m.Sign < 1 || m.Sign > api.MaxSigns || marked[m.Spot] {
			return false
		}
		marked[m.Spot] = true
	}
	return true
}

// signsOf returns the sign on each spot of an animal, 0 for none.
func signsOf(a api.Animal) [api.MaxSpots]int {
	var signs [api.MaxSpots]int
	for _, m := range a.Marks {
		signs[m.Spot] = m.Sign
	}
	return signs
}

// signsOn returns the signs of an animal on a set of spots, as if there were none on the others.
func signsOn(a api.Animal, set int) [api.MaxSpots]int {
	signs := signsOf(a)
	for spot := range signs {
		if set>>spot&1 == 0 {
			signs[spot] = 0
		}
	}
	return signs
}

// telltale returns the spots by which an animal is told from all others, and false if there are none.
func (f family) telltale(id int) ([]int, bool) {
	var best []int
	found := false
	for set := range 1 << api.MaxSpots {
		spots := spotsOf(set)
		if found && !before(spots, best) || !f.tells(set, id) {
			continue
		}
		best, found = spots, true
	}
	return best, found
}

// tells tells whether no other animal has the same signs as one on a set of spots.
func (f family) tells(set, id int) bool {
	signs := signsOn(f.animals[f.index[id]], set)
	for _, a := range f.animals {
		if a.Id != id && signsOn(a, set) == signs {
			return false
		}
	}
	return true
}

// spotsOf returns the spots of a set in ascending order.
func spotsOf(set int) []int {
	var spots []int
	for spot := range api.MaxSpots {
		if set>>spot&1 == 1 {
			spots = append(spots, spot)
		}
	}
	return spots
}

// before tells whether a list of spots is better than another one: shorter, or as long and with a first number that differs less.
func before(a, b []int) bool {
	return cmp.Or(cmp.Compare(len(a), len(b)), slices.Compare(a, b)) < 0
}
