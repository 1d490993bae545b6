package load

import "azalai/api"

// stowage is a way to stow packs: the loads, and what the packs in them are worth.
type stowage struct {
	ties  []api.Tied
	worth int
}

// bestStowage returns the first of the ways to stow that are worth most. A pack's place is 0 if it is not tied, 2 * k + 1 on the left of the animal k, and 2 * k + 2 on its right.
func bestStowage(rests []api.Span, cans, worths []int, bound int) stowage {
	at := make([]int, len(rests))
	sides := make([]api.Span, 1+2*len(cans))
	best := stowage{ties: make([]api.Tied, len(cans))}
	// Places are tried in increasing order: so of ways that are worth the same the first one is met first.
	var stow func(pack, worth int)
	stow = func(pack, worth int) {
		if pack == len(rests) {
			if worth > best.worth && carried(sides, cans, bound) {
				best = stowage{tiedAt(at, len(cans)), worth}
			}
			return
		}
		at[pack] = 0
		stow(pack+1, worth)
		for place := 1; place < len(sides); place++ {
			before := sides[place]
			at[pack], sides[place] = place, sum(before, rests[pack])
			stow(pack+1, worth+worths[pack])
			sides[place] = before
		}
	}
	stow(0, 0)
	return best
}

// carried tells whether all animals can carry what is on their sides, and it is balanced for sure.
func carried(sides []api.Span, cans []int, bound int) bool {
	for k, can := range cans {
		left, right := sides[2*k+1], sides[2*k+2]
		if balanced(left, right, bound) != api.KnownYes || left.Hi+right.Hi > can {
			return false
		}
	}
	return true
}

// tiedAt returns the loads of some animals by the place of each pack.
func tiedAt(at []int, animals int) []api.Tied {
	ties := make([]api.Tied, animals)
	for pack, place := range at {
		switch animal := (place - 1) / 2; {
		case place == 0:
		case place%2 == 1:
			ties[animal].Left = append(ties[animal].Left, pack)
		default:
			ties[animal].Right = append(ties[animal].Right, pack)
		}
	}
	return ties
}
