package toll_test

import (
	"slices"
	"testing"

	"azalai/api"
)

// fork is a journey from the well 0 on the day 10 to the well 3: by the legs 0 and 3, left on 10 and on 11 to 12, by 1 and 3, left on 10 and on 11 to 13, or by 2, left on 10. The leg 4 leads elsewhere.
func fork() journey {
	return journey{
		l:    paths(4, path(0, 1, span(1, 2)), path(1, 0, span(1, 3)), path(0, 3, exactly(2)), path(1, 3, span(1, 2)), path(1, 2, exactly(1))),
		t:    api.Troop{Heads: 1},
		fees: []api.Fee{fee(1, 10), fee(2, 20)},
		to:   3, day: 10, until: 100,
		pace: exactly(1),
	}
}

// P7.5: what is due at the most, and the guides, are the least together; of several ways it is the first one.
func TestCheapest(t *testing.T) {
	for i, x := range []struct {
		c      api.Custom
		legs   []int
		guides []int
		rials  int
		e      api.Errno
	}{
		{api.Custom{}, list(0, 3), nil, 0, api.OK},
		{api.Custom{Claims: []api.Claim{claim(0, 5, 0, 99, 1, 0)}}, list(1, 3), nil, 0, api.OK},
		{api.Custom{Claims: []api.Claim{claim(0, 5, 0, 99, 3, 0), claim(1, 5, 0, 99, 2, 0), claim(2, 6, 0, 99, 4, 0)}}, list(1, 3), nil, 2, api.OK},
		{api.Custom{Claims: []api.Claim{claim(0, 5, 0, 99, 3, 0), claim(1, 5, 0, 99, 2, 0), claim(2, 6, 0, 99, 2, 0)}}, list(1, 3), nil, 2, api.OK},
		{api.Custom{Claims: []api.Claim{claim(0, 5, 0, 99, 3, 0), claim(1, 5, 0, 99, 3, 0), claim(2, 6, 0, 99, 2, 0)}}, list(2), nil, 2, api.OK},
		{api.Custom{Claims: []api.Claim{claim(3, 5, 0, 99, 3, 0), claim(2, 6, 0, 99, 3, 0)}}, list(0, 3), nil, 3, api.OK},
		{api.Custom{Claims: []api.Claim{claim(3, 5, 0, 99, 3, 0), claim(2, 6, 0, 99, 2, 0)}}, list(2), nil, 2, api.OK},
		// The most counts, not the least: on 11 to 12, or on 11 to 13.
		{api.Custom{Claims: []api.Claim{claim(3, 5, 0, 11, 1, 0), claim(3, 5, 12, 12, 2, 0), claim(3, 5, 13, 13, 9, 0), claim(2, 6, 0, 99, 3, 0)}}, list(0, 3), nil, 2, api.OK},
		{api.Custom{Claims: []api.Claim{claim(3, 5, 12, 12, 4, 0), claim(2, 6, 0, 99, 3, 0)}}, list(2), nil, 3, api.OK},
		{api.Custom{Claims: []api.Claim{claim(0, 5, 0, 99, 2, 0), claim(3, 5, 13, 13, 1, 0), claim(2, 6, 0, 99, 3, 0)}}, list(1, 3), nil, 1, api.OK},
		{api.Custom{Claims: []api.Claim{claim(0, 5, 0, 99, 2, 0), claim(3, 5, 13, 13, 4, 0), claim(2, 6, 0, 99, 3, 0)}}, list(0, 3), nil, 2, api.OK},
		// Guides cost as much as tolls do.
		{api.Custom{Claims: []api.Claim{guided(3, 1, 0, 99), claim(2, 6, 0, 99, 10, 0)}}, list(0, 3), list(1), 10, api.OK},
		{api.Custom{Claims: []api.Claim{guided(3, 1, 0, 99), claim(2, 6, 0, 99, 9, 0)}}, list(2), nil, 9, api.OK},
		{api.Custom{Claims: []api.Claim{guided(0, 2, 0, 99), guided(1, 1, 0, 99), {Leg: 3, Tribe: 1, To: 99, Head: 5, Guide: true}, claim(2, 6, 0, 99, 16, 0)}}, list(1, 3), list(1), 15, api.OK},
		{api.Custom{Claims: []api.Claim{guided(0, 2, 0, 99), guided(1, 2, 0, 99), {Leg: 3, Tribe: 1, To: 99, Head: 5, Guide: true}, claim(2, 6, 0, 99, 36, 0)}}, list(0, 3), list(1, 2), 35, api.OK},
		// What is barred is not gone, however little is due.
		{api.Custom{Claims: []api.Claim{guided(3, 7, 14, 14), claim(2, 6, 0, 99, 999, 0)}}, list(0, 3), nil, 0, api.OK},
		{api.Custom{Claims: []api.Claim{guided(3, 7, 11, 11), claim(2, 6, 0, 99, 999, 0)}}, list(2), nil, 999, api.OK},
		{api.Custom{Borders: []api.Border{border(0, 10, 10)}}, list(1, 3), nil, 0, api.OK},
		{api.Custom{Borders: []api.Border{border(0, 10, 10), border(1, 12, 12)}}, list(2), nil, 0, api.OK},
		{api.Custom{Borders: []api.Border{border(0, 10, 10), border(1, 13, 13)}}, list(1, 3), nil, 0, api.OK},
		{api.Custom{Borders: []api.Border{border(0, 12, 12), border(3, 14, 14)}}, list(0, 3), nil, 0, api.OK},
		{api.Custom{Borders: []api.Border{border(2, 11, 11), border(3, 12, 12)}}, nil, nil, 0, api.ErrBarred},
		{api.Custom{Borders: []api.Border{border(2, 11, 11)}, Claims: []api.Claim{guided(3, 0, 12, 12)}}, nil, nil, 0, api.ErrBarred},
		{api.Custom{Borders: []api.Border{border(2, 11, 11)}, Claims: []api.Claim{claim(3, 7, 12, 12, 0, 0)}, Feuds: []api.Feud{feud(7, 4, 12, 12)}}, nil, nil, 0, api.ErrBarred},
		{api.Custom{Borders: []api.Border{border(3, 12, 12)}, Claims: []api.Claim{claim(2, 7, 11, 11, 50, 0)}, Feuds: []api.Feud{feud(7, 4, 12, 12)}}, list(2), nil, 0, api.OK},
	} {
		j := fork()
		j.c = x.c
		j.t.People = list(4)
		if legs, guides, rials, e := j.cheapest(); !slices.Equal(legs, x.legs) || !slices.Equal(guides, x.guides) || rials != x.rials || e != x.e {
			t.Error(i, legs, guides, rials, e, "want", x)
		}
	}
}

// P7.5: guides that are hired do not change what is due, nor are they guests.
func TestCheapestWithGuides(t *testing.T) {
	j := fork()
	j.c.Claims = []api.Claim{{Leg: 3, Tribe: 1, To: 99, Head: 7, Part: 500, Guide: true}, {Leg: 2, Tribe: 2, To: 99, Head: 1, Guide: true}}
	j.t = api.Troop{Heads: 2, Worth: 9}
	j.wantCheapest(t, list(2), list(2), 22)
	j.c.Claims[1].Head = 4
	j.wantCheapest(t, list(2), list(2), 28)
	j.c.Claims[1].Head = 5
	j.wantCheapest(t, list(0, 3), list(1), 29)
	j.t.Guides = list(2)
	j.wantCheapest(t, list(2), nil, 10)
	j.t.Guests = list(1)
	j.wantCheapest(t, list(0, 3), list(1), 10)
	j.t.Guests = list(1, 2)
	j.wantCheapest(t, list(2), nil, 0)
}

// P7.5: only the ways that end until a day; and those of way.Ways' errors.
func TestCheapestWays(t *testing.T) {
	j := fork()
	j.c.Claims = []api.Claim{claim(0, 1, 0, 99, 2, 0), claim(2, 1, 0, 99, 3, 0)}
	j.wantCheapest(t, list(1, 3), nil, 0)
	j.until = 15
	j.wantCheapest(t, list(1, 3), nil, 0)
	j.until = 14
	j.wantCheapest(t, list(0, 3), nil, 2)
	j.until = 13
	j.wantCheapest(t, list(2), nil, 3)
	j.until = 11
	for _, fees := range [][]api.Fee{nil, j.fees} {
		j.fees = fees
		if legs, guides, rials, e := j.cheapest(); len(legs) != 0 || len(guides) != 0 || rials != 0 || e != api.ErrBarred {
			t.Error(legs, guides, rials, e)
		}
	}
	// To where one is there is a way of no legs, but only until the day on which it begins.
	j.c.Borders = []api.Border{border(0, 0, 99), border(1, 0, 99), border(2, 0, 99)}
	j.to, j.until = 0, 10
	j.wantCheapest(t, nil, nil, 0)
	j.until = 9
	if _, _, _, e := j.cheapest(); e != api.ErrBarred {
		t.Error(e)
	}
	// To the well 1, in the other direction.
	j = fork()
	j.from, j.to = 3, 0
	j.c.Claims = []api.Claim{claim(0, 1, 11, 11, 5, 0), claim(2, 1, 10, 10, 3, 0), claim(1, 1, 13, 99, 5, 0)}
	j.wantCheapest(t, list(3, 1), nil, 0)
}

// P7.5: the arguments of way.Ways.
func TestCheapestArguments(t *testing.T) {
	check := func(e api.Errno, change func(j *journey)) {
		t.Helper()
		j := fork()
		change(&j)
		if legs, guides, rials, f := j.cheapest(); f != e || e != api.OK && (len(legs) != 0 || len(guides) != 0 || rials != 0) {
			t.Error(j.from, j.to, j.day, j.until, j.pace, legs, guides, rials, f, "want", e)
		}
	}
	for n, ok := range around(0, 3) {
		check(due(ok, api.ErrArg), func(j *journey) { j.from = n })
		check(due(ok, api.ErrArg), func(j *journey) { j.to = n })
	}
	for n, ok := range around(0, 100000) {
		check(due(ok, api.ErrArg), func(j *journey) { j.day, j.until = n, max(0, min(n, 100000)); j.from = 3 })
	}
	for n, ok := range around(10, 100000) {
		if n < 0 || n > 10 {
			check(due(ok, api.ErrArg), func(j *journey) { j.until, j.from = n, 3 })
		} else {
			check(due(ok, api.ErrBarred), func(j *journey) { j.until, j.from = n, 3 })
		}
	}
	for n, ok := range around(1, 100000) {
		check(due(ok, api.ErrPace), func(j *journey) { j.pace = exactly(n) })
	}
	check(api.ErrPace, func(j *journey) { j.pace = span(2, 1) })
	check(api.ErrFull, func(j *journey) {
		j.l = paths(12)
		for i := range 8 {
			j.l.Legs = append(j.l.Legs, slices.Repeat([]api.Leg{path(i, i+1, exactly(1))}, 2)...)
		}
		j.to = 8
	})
}
