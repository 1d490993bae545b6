package brand

import (
	"slices"

	"azalai/api"
)

func validLook(l api.Look) bool {
	if len(l.Signs) != api.MaxSpots {
		return false
	}
	for _, signs := range l.Signs {
		if signs >= 1<<(api.MaxSigns+1) {
			return false
		}
	}
	return l.Day >= 0 && l.Day <= api.MaxDay && within(0, 2*api.MaxDay, l.Age)
}

// validLooks tells whether looks are valid, and calves are of two of them each.
func validLooks(looks []api.Look, calves []api.Calf) bool {
	for _, l := range looks {
		if !validLook(l) {
			return false
		}
	}
	for _, c := range calves {
		if c.Dam < 0 || c.Dam >= len(looks) || c.Young < 0 || c.Young >= len(looks) || c.Dam == c.Young {
			return false
		}
	}
	return true
}

// seen returns when an animal may have been born if a look was at it, and false if the look does not fit it.
func seen(a api.Animal, born api.Span, l api.Look) (api.Span, bool) {
	for spot, sign := range signsOf(a) {
		if l.Signs[spot]>>sign&1 == 0 {
			return api.Span{}, false
		}
	}
	then := common(born, less(exactly(l.Day), l.Age))
	return then, !empty(then)
}

// names returns for each look all animals that it has in some names, and false if there are no names.
func (f family) names(born []api.Span, looks []api.Look, calves []api.Calf) ([][]api.Animal, bool) {
	var named [api.MaxLooks][api.MaxBeasts]bool
	found := false
	var chosen []int
	var try func(born []api.Span)
	try = func(born []api.Span) {
		look := len(chosen)
		if look == len(looks) {
			found = true
			for of, i := range chosen {
				named[of][i] = true
			}
			return
		}
		for i, a := range f.animals {
			then, ok := seen(a, born[i], looks[look])
			if !ok || slices.Contains(chosen, i) {
				continue
			}
			chosen = append(chosen, i)
			if f.calvesFit(chosen, calves) {
				// What this look tells of an age may exclude others for the next looks.
				known := slices.Clone(born)
				known[i] = then
				f.narrow(known)
				try(known)
			}
			chosen = chosen[:look]
		}
	}
	try(born)
	return f.animalsOf(named[:len(looks)]), found
}

// calvesFit tells whether the calves for looks are calves of the animals that are chosen, as far as both are chosen.
func (f family) calvesFit(chosen []int, calves []api.Calf) bool {
	for _, c := range calves {
		if c.Dam >= len(chosen) || c.Young >= len(chosen) {
			continue
		}
		if f.animals[chosen[c.Young]].Mother != f.animals[chosen[c.Dam]].Id {
			return false
		}
	}
	return true
}

// animalsOf returns for each look the animals whose indices are named.
func (f family) animalsOf(named [][api.MaxBeasts]bool) [][]api.Animal {
	all := make([][]api.Animal, len(named))
	for look := range named {
		for i, a := range f.animals {
			if named[look][i] {
				all[look] = append(all[look], a)
			}
		}
	}
	return all
}
