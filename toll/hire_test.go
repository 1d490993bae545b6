package toll_test

import (
	"math"
	"slices"
	"testing"

	"azalai/api"
)

// P7.4: the ranges of the numbers of fees, and their order.
func TestFees(t *testing.T) {
	check := func(ok bool, fees ...api.Fee) {
		t.Helper()
		j := valid()
		j.fees = fees
		j.wantErrors(t, due(ok, api.ErrFees), withFees...)
	}
	check(true)
	check(true, []api.Fee{}...)
	for n, ok := range around(0, 7) {
		check(ok, fee(n, 5))
	}
	for n, ok := range around(0, 1000000000000) {
		check(ok, fee(5, n))
		check(ok, fee(2, n), fee(5, 5))
		check(ok, fee(2, 5), fee(5, n))
	}
	var every []api.Fee
	for tribe := range 8 {
		every = append(every, fee(tribe, 1000000000000-tribe))
	}
	check(true, every...)
	check(false, every[7], every[7])
	check(false, every[7], every[0])
	check(false, every[0], every[2], every[1])
	check(false, append(every, fee(7, 5))...)
	check(false, append(every, fee(8, 5))...)
	check(false, append([]api.Fee{fee(-1, 5)}, every...)...)
	check(false, fee(0, 5), fee(math.MaxInt, 5))
	check(false, slices.Repeat(every[:1], 9)...)
}

// P7.4: who is wanted is hired, and nobody else; if one cannot be hired, or others bar the way, there is an error.
func TestHire(t *testing.T) {
	wants := []api.Claim{guided(0, 2, 0, 99), guided(1, 5, 14, 14), claim(1, 3, 15, 99, 9, 0), guided(1, 6, 17, 99), guided(2, 7, 0, 99)}
	fees := []api.Fee{fee(0, 0), fee(2, 20), fee(3, 0), fee(4, 4), fee(5, 50), fee(6, 0)}
	for i, x := range []struct {
		claims []api.Claim
		feud   api.Feud
		guides []int // those that there are
		fees   []api.Fee
		legs   []int
		hired  []int
		rials  int
		e      api.Errno
	}{
		{nil, feud(0, 1, 0, 99), nil, nil, list(0, 1), nil, 0, api.OK},
		// Those who would come for nothing are not wanted.
		{nil, feud(0, 1, 0, 99), nil, fees, list(0, 1), nil, 0, api.OK},
		{wants, feud(0, 1, 0, 99), nil, fees, list(), nil, 0, api.OK},
		{wants, feud(0, 1, 0, 99), nil, fees, list(0), list(2), 20, api.OK},
		{wants, feud(0, 1, 0, 99), nil, fees, list(0, 1), list(2, 5), 70, api.OK},
		{wants, feud(0, 1, 0, 99), list(5), fees, list(0, 1), list(2), 20, api.OK},
		{wants, feud(0, 1, 0, 99), list(2), fees, list(0, 1), list(5), 50, api.OK},
		{wants, feud(0, 1, 0, 99), list(2, 5), fees, list(0, 1), nil, 0, api.OK},
		{wants, feud(0, 1, 0, 99), list(2, 5), nil, list(0, 1), nil, 0, api.OK},
		// Nobody knows what 7 asks; or there is no fee of 5.
		{wants, feud(0, 1, 0, 99), nil, fees, list(0, 2), nil, 0, api.ErrBarred},
		{wants, feud(0, 1, 0, 99), list(7), fees, list(0, 2), list(2), 20, api.OK},
		{wants, feud(0, 1, 0, 99), nil, fees[:4], list(0, 1), nil, 0, api.ErrBarred},
		{wants, feud(0, 1, 0, 99), nil, nil, list(0, 1), nil, 0, api.ErrBarred},
		// The guides are at feud with a holder, on this leg or on another one, while they are on it.
		{wants, feud(5, 2, 10, 10), nil, fees, list(0, 1), nil, 0, api.ErrBarred},
		{wants, feud(5, 2, 0, 9), nil, fees, list(0, 1), list(2, 5), 70, api.OK},
		{wants, feud(2, 5, 14, 14), nil, fees, list(0, 1), nil, 0, api.ErrBarred},
		{wants, feud(2, 5, 15, 99), nil, fees, list(0, 1), list(2, 5), 70, api.OK},
		{wants, feud(3, 2, 16, 99), nil, fees, list(0, 1), nil, 0, api.ErrBarred},
		{wants, feud(3, 2, 17, 99), nil, fees, list(0, 1), list(2, 5), 70, api.OK},
		{wants, feud(5, 3, 16, 16), nil, fees, list(0, 1), nil, 0, api.ErrBarred},
		// Other guides would be at feud.
		{wants, feud(2, 0, 0, 99), nil, fees, list(0, 1), list(2, 5), 70, api.OK},
		{wants, feud(2, 0, 0, 99), list(0), fees, list(0, 1), nil, 0, api.ErrBarred},
		// The people are.
		{wants, feud(2, 1, 0, 99), nil, fees, list(0, 1), nil, 0, api.ErrBarred},
		{nil, feud(2, 1, 0, 99), nil, fees, list(0, 1), nil, 0, api.OK},
	} {
		j := road()
		j.t.People, j.t.Guides = list(1), x.guides
		j.c = api.Custom{Claims: x.claims, Feuds: []api.Feud{x.feud}}
		j.fees, j.legs = x.fees, x.legs
		if hired, rials, e := j.hire(); !slices.Equal(hired, x.hired) || rials != x.rials || e != x.e {
			t.Error(i, hired, rials, e, "want", x.hired, x.rials, x.e)
		}
		// No guide helps where there is a border.
		if len(j.legs) > 0 {
			j.c.Borders = []api.Border{border(j.legs[len(j.legs)-1], 0, 99)}
			if hired, rials, e := j.hire(); len(hired) != 0 || rials != 0 || e != api.ErrBarred {
				t.Error(i, hired, rials, e)
			}
		}
	}
}

// P7.4: neither people nor guests are guides, and who is one of them can be hired.
func TestHireOfPeople(t *testing.T) {
	j := road()
	j.c.Claims = []api.Claim{guided(0, 2, 0, 99)}
	j.t.People, j.t.Guests = list(2), list(2)
	j.fees = []api.Fee{fee(2, 9)}
	j.wantHired(t, 9, 2)
}

// P7.4: as many as there can be, for as much as they can ask, or for nothing.
func TestHireMost(t *testing.T) {
	j := road()
	j.l, j.legs = paths(2, slices.Repeat([]api.Leg{path(0, 1, exactly(1))}, 8)...), list(7, 6, 5, 4, 3, 2, 1, 0)
	for tribe := range 8 {
		j.c.Claims = append(j.c.Claims, guided(tribe, tribe, 0, 99))
		j.fees = append(j.fees, fee(tribe, 1000000000000))
	}
	j.wantHired(t, 8000000000000, 0, 1, 2, 3, 4, 5, 6, 7)
	for i := range j.fees {
		j.fees[i].Rials = 0
	}
	j.wantHired(t, 0, 0, 1, 2, 3, 4, 5, 6, 7)
	j.legs = list(7, 2, 4)
	j.wantHired(t, 0, 2, 4, 7)
}
