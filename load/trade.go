package load

import (
	"slices"

	"azalai/api"
)

// exchange is what comes of an exchange: loads, and the packs that were moved to the other side.
type exchange struct {
	next  []api.Tied
	moved []int
}

// validPuts tells whether packs may be taken off loads, and packs be put on them; a pack that is taken off may be put again.
func validPuts(packs int, ties []api.Tied, off []int, on []api.Put) bool {
	free := slices.Repeat([]bool{true}, packs)
	for _, t := range ties {
		for _, list := range listsOf(t) {
			for _, i := range list {
				free[i] = false
			}
		}
	}
	last := -1
	for _, i := range off {
		if !inRange(i, last+1, packs-1) || free[i] {
			return false
		}
		free[i], last = true, i
	}
	return all(on, func(p api.Put) bool {
		if !inRange(p.Pack, 0, packs-1) || !free[p.Pack] {
			return false
		}
		free[p.Pack] = false
		return inRange(p.Tie, 0, len(ties)-1) && p.Place <= api.PlaceTop
	})
}

// exchanged returns loads without some packs, and with those that are put.
func exchanged(ties []api.Tied, off []int, on []api.Put) []api.Tied {
	next := make([]api.Tied, len(ties))
	for i, t := range ties {
		lists := listsOf(t)
		for place := range lists {
			lists[place] = replaced(lists[place], off, putAt(on, i, place))
		}
		next[i] = loadOf(lists)
	}
	return next
}

// putAt returns the packs that are put at a place of a load.
func putAt(on []api.Put, tie, place int) []int {
	var packs []int
	for _, p := range on {
		if p.Tie == tie && int(p.Place) == place {
			packs = append(packs, p.Pack)
		}
	}
	return packs
}

// settled returns loads that are balanced for sure, after the fewest packs of each are moved; it ends an attempt if one cannot be balanced.
func settled(rests []api.Span, loads []api.Tied, bound int) exchange {
	var done exchange
	for _, t := range loads {
		b := burden{t, rests}
		// Of a load that is balanced for sure no pack is moved: no list of packs is shorter.
		moved := b.settle(bound)
		done.next = append(done.next, b.turned(moved).Tied)
		done.moved = append(done.moved, moved...)
	}
	slices.Sort(done.moved)
	return done
}
