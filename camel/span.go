package camel

import "azalai/api"

// within tells whether each of some spans has its Lo at most its Hi, and both from 0 to a number.
func within(most int, spans ...api.Span) bool {
	for _, s := range spans {
		if s.Lo < 0 || s.Lo > s.Hi || s.Hi > most {
			return false
		}
	}
	return true
}

// exactly returns the span of a number that is known.
func exactly(n int) api.Span { return api.Span{Lo: n, Hi: n} }

// scaled returns the product of spans from 0 on, divided by a number: Lo rounded down and Hi up, so that no true value is left out.
func scaled(divisor int, spans ...api.Span) api.Span {
	product := exactly(1)
	for _, s := range spans {
		product.Lo *= s.Lo
		product.Hi *= s.Hi
	}
	return api.Span{Lo: product.Lo / divisor, Hi: (product.Hi + divisor - 1) / divisor}
}

func sum(spans ...api.Span) api.Span {
	all := api.Span{}
	for _, s := range spans {
		all.Lo += s.Lo
		all.Hi += s.Hi
	}
	return all
}

// less returns what is left of a span when another one is taken away.
func less(s, taken api.Span) api.Span {
	return api.Span{Lo: s.Lo - taken.Hi, Hi: s.Hi - taken.Lo}
}

// clamped returns a span with what is below 0, and above a number, moved there.
func clamped(s api.Span, most int) api.Span {
	return api.Span{Lo: min(max(s.Lo, 0), most), Hi: min(max(s.Hi, 0), most)}
}

// greatest returns the greatest number from least to most that fits, where each number below one that fits has to fit too, and false if none fits.
func greatest[N ~int](least, most N, fits func(N) bool) (N, bool) {
	if !fits(least) {
		return 0, false
	}
	for least < most {
		middle := most - (most-least)/2
		if fits(middle) {
			least = middle
		} else {
			most = middle - 1
		}
	}
	return least, true
}
