package camel

import (
	"cmp"
	"slices"

	"azalai/api"
)

// Mange returns what is known of each animal of a herd on a day: whether it is sick (P1.8).
func Mange(n int, first []int, meets []api.Meet, wait api.Span, day int) ([]uint8, api.Errno) {
	if e := checkMange(n, first, meets, wait, day); e != api.OK {
		return nil, e
	}
	known := make([]uint8, n)
	for i, sick := range sickFrom(n, first, meets, wait, day) {
		switch {
		case sick.Hi <= day:
			known[i] = api.KnownYes
		case sick.Lo <= day:
			known[i] = api.KnownOpen
		default:
			known[i] = api.KnownNo
		}
	}
	return known, api.OK
}

// sickFrom returns from which day on each animal is sick: Lo if it is passed on at each meeting and all waits are short, Hi if only at the close ones and all waits are long. Every truth lies between these two, as an animal that is sick earlier makes no other one sick later. A day after the one that is asked for stands for any later one.
func sickFrom(n int, first []int, meets []api.Meet, wait api.Span, day int) []api.Span {
	sick := slices.Repeat([]api.Span{exactly(api.Never)}, n)
	for _, i := range first {
		sick[i] = exactly(0)
	}
meeting:
	for _, m := range inOrder(meets) {
		for _, pair := range [2][2]int{{m.A, m.B}, {m.B, m.A}} {
			from, to := pair[0], pair[1]
			then := sum(exactly(m.Day), wait)
			if then.Lo > day {
				// Whoever catches it from here on is not yet sick on the day that is asked for.
				break meeting
			}
			if sick[from].Lo <= m.Day {
				sick[to].Lo = min(sick[to].Lo, then.Lo)
			}
			if m.Close && sick[from].Hi <= m.Day {
				sick[to].Hi = min(sick[to].Hi, then.Hi)
			}
		}
	}
	return sick
}

// inOrder returns meetings by their days. On one day their order does not matter: no animal is sick yet on the day on which it catches it.
func inOrder(meets []api.Meet) []api.Meet {
	ordered := slices.Clone(meets)
	slices.SortFunc(ordered, func(a, b api.Meet) int { return cmp.Compare(a.Day, b.Day) })
	return ordered
}

func checkMange(n int, first []int, meets []api.Meet, wait api.Span, day int) api.Errno {
	if n < 1 || n > api.MaxTrain || wait.Lo < 1 || !within(api.MaxCatches, wait) || day < 0 || day > api.MaxDay {
		return api.ErrArg
	}
	if len(first) > api.MaxTrain || len(meets) > api.MaxMeets {
		return api.ErrMany
	}
	for _, i := range first {
		if i < 0 || i >= n {
			return api.ErrMeet
		}
	}
	for _, m := range meets {
		if m.A < 0 || m.A >= n || m.B < 0 || m.B >= n || m.A == m.B || m.Day < 0 || m.Day > api.MaxDay {
			return api.ErrMeet
		}
	}
	return api.OK
}
