package way

import "azalai/api"

func inRange(n, least, most int) bool { return least <= n && n <= most }

func validDay(day int) bool { return inRange(day, 0, api.MaxDay) }

// validSpan tells whether a span has its Lo at most its Hi, and both from a number to another one.
func validSpan(s api.Span, least, most int) bool {
	return least <= s.Lo && s.Lo <= s.Hi && s.Hi <= most
}

// isIndex tells whether a number is the index of one of a list.
func isIndex[T any](n int, list []T) bool { return inRange(n, 0, len(list)-1) }

func validLand(l api.Land) bool {
	if !inRange(len(l.Wells), 1, api.MaxWells) || len(l.Legs) > api.MaxLegs {
		return false
	}
	for _, w := range l.Wells {
		if !validWell(w) {
			return false
		}
	}
	for _, leg := range l.Legs {
		if !isIndex(leg.From, l.Wells) || !isIndex(leg.To, l.Wells) || !validLeg(leg) {
			return false
		}
	}
	return true
}

func validWell(w api.Well) bool {
	return inRange(w.X, -api.MaxPlace, api.MaxPlace) && inRange(w.Y, -api.MaxPlace, api.MaxPlace) &&
		inRange(w.Depth, 0, api.MaxDepth) &&
		validSpan(w.Yield, 0, api.MaxYield) &&
		inRange(w.Room, 0, api.MaxWater) && validSpan(w.Has, 0, w.Room) &&
		inRange(w.Owner, 0, api.MaxId)
}

// validLeg tells whether a leg is valid, but for its ends, which may be no wells.
func validLeg(leg api.Leg) bool {
	return leg.From != leg.To && validSpan(leg.Long, 1, api.MaxLong) && validGates(leg.Gates)
}

// validGates tells whether gates are valid, each one opens after the one before has shut.
func validGates(gates []api.Gate) bool {
	if len(gates) > api.MaxGates {
		return false
	}
	shut := -1
	for _, g := range gates {
		if !validSpan(g.Opens, 0, api.MaxDay) || !validSpan(g.Shuts, 0, api.MaxDay) || g.Opens.Lo > g.Shuts.Hi || g.Opens.Lo <= shut {
			return false
		}
		shut = g.Shuts.Hi
	}
	return true
}
