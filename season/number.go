package season

import "azalai/api"

func inRange(n, least, most int) bool { return least <= n && n <= most }

// validSpan tells whether a span has its Lo at most its Hi, and both from a number to another one.
func validSpan(s api.Span, least, most int) bool {
	return least <= s.Lo && s.Lo <= s.Hi && s.Hi <= most
}

// exactly returns the span of a number that is known.
func exactly(n int) api.Span { return api.Span{Lo: n, Hi: n} }

// around returns the least span that has in it all that is in some spans.
func around(first api.Span, others ...api.Span) api.Span {
	for _, s := range others {
		first = api.Span{Lo: min(first.Lo, s.Lo), Hi: max(first.Hi, s.Hi)}
	}
	return first
}
