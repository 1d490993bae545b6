package brand

import "azalai/api"

// within tells whether each of some spans has its Lo at most its Hi, and both from a number to another one.
func within(least, most int, spans ...api.Span) bool {
	for _, s := range spans {
		if s.Lo < least || s.Lo > s.Hi || s.Hi > most {
			return false
		}
	}
	return true
}

// exactly returns the span of a number that is known.
func exactly(n int) api.Span { return api.Span{Lo: n, Hi: n} }

func sum(spans ...api.Span) api.Span {
	all := api.Span{}
	for _, s := range spans {
		all.Lo += s.Lo
		all.Hi += s.Hi
	}
	return all
}

// less returns what is left of a span when another one is taken away.
func less(s, taken api.Span) api.Span {
	return api.Span{Lo: s.Lo - taken.Hi, Hi: s.Hi - taken.Lo}
}

// common returns what is in both of two spans; it is empty if there is nothing.
func common(a, b api.Span) api.Span {
	return api.Span{Lo: max(a.Lo, b.Lo), Hi: min(a.Hi, b.Hi)}
}

func empty(s api.Span) bool { return s.Lo > s.Hi }
