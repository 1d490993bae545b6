package guide

import "azalai/api"

func validTrek(t api.Trek) bool {
	return validSpan(t.Days, 0, api.MaxDays) &&
		validSpan(t.East, -api.MaxPace, api.MaxPace) && validSpan(t.North, -api.MaxPace, api.MaxPace)
}

// howFar returns how far one goes on some days, with so many metres on each of them.
func howFar(days, pace api.Span) api.Span {
	return ends(days.Lo*pace.Lo, days.Lo*pace.Hi, days.Hi*pace.Lo, days.Hi*pace.Hi)
}

// moved returns the halves of an area after a trek.
func moved(halves []api.Half, t api.Trek) []api.Half {
	east, north := howFar(t.Days, t.East), howFar(t.Days, t.North)
	var after []api.Half
	for _, h := range halves {
		h.C += ends(h.A*east.Lo, h.A*east.Hi).Hi + ends(h.B*north.Lo, h.B*north.Hi).Hi
		after = append(after, h)
	}
	return after
}
