package toll_test

import (
	"math"
	"slices"
	"testing"

	"azalai/api"
)

// road is a journey from the day 10 on, without customs: it may leave on 10, and on 12 to 14, and be on the leg 0 on 10 to 13, and on the leg 1 on 12 to 16. By the leg 2 it may leave on 30 to 33, and be on it on 30 to 34.
func road() journey {
	return journey{
		l:  paths(3, path(0, 1, span(2, 4)), path(1, 2, exactly(3)), leg(1, 2, span(1, 2), span(30, 33), span(60, 70))),
		t:  api.Troop{Heads: 1},
		to: 2, day: 10, until: 100,
		pace: exactly(1),
		legs: list(0, 1),
	}
}

// P7.2: the ranges of the numbers of a troop, and lists of tribes in increasing order.
func TestTroop(t *testing.T) {
	right := valid()
	right.c.Feuds = nil
	right.t = api.Troop{Heads: 3, Worth: 5, People: list(4), Guides: list(5), Guests: list(6)}
	check := func(ok bool, change func(t *api.Troop)) {
		t.Helper()
		j := right
		change(&j.t)
		j.wantErrors(t, due(ok, api.ErrTroop), ofTroops...)
	}
	for n, ok := range around(1, 1000) {
		check(ok, func(t *api.Troop) { t.Heads = n })
	}
	for n, ok := range around(0, 1000000000000) {
		check(ok, func(t *api.Troop) { t.Worth = n })
	}
	for _, of := range []func(t *api.Troop) *[]int{
		func(t *api.Troop) *[]int { return &t.People },
		func(t *api.Troop) *[]int { return &t.Guides },
		func(t *api.Troop) *[]int { return &t.Guests },
	} {
		for n, ok := range around(0, 7) {
			check(ok, func(t *api.Troop) { *of(t) = list(n) })
		}
		for _, l := range [][]int{nil, {}, {4, 5, 6, 7}, {0, 7}} {
			check(true, func(t *api.Troop) { *of(t) = l })
		}
		for _, l := range [][]int{{5, 4}, {4, 4}, {4, 6, 5}, {4, 5, 5}, {-1, 4}, {4, 8}, {4, math.MaxInt}, {math.MinInt, 4}, {0, 1, 2, 3, 4, 5, 6, 7, 7}, {0, 1, 2, 3, 4, 5, 6, 7, 8}, slices.Repeat([]int{4}, 9)} {
			check(false, func(t *api.Troop) { *of(t) = l })
		}
	}
	// All tribes may be in each list, and the same ones in several lists.
	every := list(0, 1, 2, 3, 4, 5, 6, 7)
	check(true, func(t *api.Troop) { t.People, t.Guides, t.Guests = every, every, every })
}

// P7.2: a border counts on the days on which the troop may be on the leg, and on no others.
func TestBorder(t *testing.T) {
	for _, x := range []struct {
		border api.Border
		legs   []int
		at     int
		barred bool
	}{
		{border(0, 0, 9), list(0, 1), 0, false},
		{border(0, 0, 10), list(0, 1), 0, true},
		{border(0, 11, 12), list(0, 1), 0, true},
		{border(0, 13, 13), list(0, 1), 0, true},
		{border(0, 13, 99), list(0, 1), 0, true},
		{border(0, 0, 99), list(0, 1), 0, true},
		{border(0, 14, 99), list(0, 1), 0, false},
		{border(1, 0, 11), list(0, 1), 0, false},
		{border(1, 0, 12), list(0, 1), 1, true},
		{border(1, 12, 12), list(0, 1), 1, true},
		{border(1, 16, 16), list(0, 1), 1, true},
		{border(1, 17, 99), list(0, 1), 0, false},
		{border(1, 0, 99), list(0), 0, false},
		// The leg 2 is at the place 1. One waits for it, and is not on it before.
		{border(2, 0, 99), list(0, 2), 1, true},
		{border(1, 0, 99), list(0, 2), 0, false},
		{border(2, 0, 29), list(0, 2), 0, false},
		{border(2, 14, 30), list(0, 2), 1, true},
		{border(2, 34, 34), list(0, 2), 1, true},
		{border(2, 35, 35), list(0, 2), 0, false},
		{border(0, 14, 29), list(0, 2), 0, false},
		// Three times by the same leg, on 10 to 13, 12 to 17, and 14 to 21.
		{border(0, 14, 14), list(0, 0, 0), 1, true},
		{border(0, 18, 18), list(0, 0, 0), 2, true},
		{border(0, 21, 21), list(0, 0, 0), 2, true},
		{border(0, 22, 22), list(0, 0, 0), 0, false},
		{border(0, 13, 21), list(0, 0, 0), 0, true},
		{border(0, 0, 99), nil, 0, false},
	} {
		j := road()
		j.legs = x.legs
		j.c.Borders = []api.Border{border(2, 99, 99), x.border, border(0, 0, 0)}
		why := uint8(api.BarNot)
		if x.barred {
			why = api.BarBorder
		}
		j.wantBarred(t, why, x.at)
	}
}

// P7.2: the holder's tribe is at feud with one of the people, or of the guides, on the same day.
func TestFeud(t *testing.T) {
	// 2 holds the leg 0 until 11, and then 3, 4 holds the leg 1 on 15 and 16; 5 and 6 hold nothing.
	claims := []api.Claim{claim(0, 3, 5, 99, 0, 0), claim(0, 2, 0, 11, 0, 0), claim(1, 4, 15, 16, 0, 0), claim(0, 5, 6, 99, 0, 0), claim(2, 6, 0, 99, 0, 0)}
	for i, x := range []struct {
		feud   api.Feud
		people []int
		at     int
		barred bool
	}{
		{feud(2, 0, 0, 99), list(0), 0, true},
		{feud(0, 2, 0, 99), list(0), 0, true},
		{feud(0, 2, 10, 10), list(0), 0, true},
		{feud(0, 2, 11, 11), list(0), 0, true},
		{feud(0, 2, 0, 9), list(0), 0, false},
		// On 12 it is no holder any more.
		{feud(0, 2, 12, 99), list(0), 0, false},
		{feud(0, 3, 0, 11), list(0), 0, false},
		{feud(0, 3, 0, 12), list(0), 0, true},
		{feud(0, 3, 13, 13), list(0), 0, true},
		{feud(0, 3, 14, 99), list(0), 0, false},
		{feud(0, 4, 0, 14), list(0), 0, false},
		{feud(0, 4, 0, 15), list(0), 1, true},
		{feud(4, 0, 16, 99), list(0), 1, true},
		{feud(4, 0, 17, 99), list(0), 0, false},
		{feud(0, 4, 0, 99), list(0), 1, true},
		// Who holds nothing bars nothing.
		{feud(0, 5, 0, 99), list(0), 0, false},
		{feud(0, 6, 0, 99), list(0), 0, false},
		// A feud of others, and of two of the people.
		{feud(1, 2, 0, 99), list(0), 0, false},
		{feud(0, 1, 0, 99), list(0, 1), 0, false},
		{feud(2, 3, 0, 99), list(0), 0, false},
		{feud(0, 2, 0, 99), nil, 0, false},
		{feud(0, 2, 0, 99), list(2), 0, false},
		// One of several people will do, also one of the holder's own.
		{feud(7, 2, 0, 99), list(0, 1, 7), 0, true},
		{feud(2, 7, 0, 99), list(0, 2, 7), 0, true},
		{feud(2, 4, 0, 99), list(2), 1, true},
		{feud(2, 4, 0, 99), list(4), 0, true},
	} {
		j := road()
		j.c = api.Custom{Claims: claims, Feuds: []api.Feud{feud(1, 7, 0, 99), x.feud, feud(6, 5, 0, 99)}}
		why := uint8(api.BarNot)
		if x.barred {
			why = api.BarFeud
		}
		j.t.People = x.people
		j.wantBarred(t, why, x.at)
		j.t.People, j.t.Guides = nil, x.people
		j.wantBarred(t, why, x.at)
		j.t.People, j.t.Guides = x.people, x.people
		j.wantBarred(t, why, x.at)
		// Guests are not at feud.
		j.t.People, j.t.Guides, j.t.Guests = nil, nil, x.people
		j.wantBarred(t, api.BarNot, 0)
		if t.Failed() {
			t.Fatal(i)
		}
	}
}

// P7.2: a holder wants a guide of its own tribe, on the days on which it is the holder.
func TestGuide(t *testing.T) {
	j := road()
	j.c.Claims = []api.Claim{guided(0, 2, 5, 11), claim(0, 3, 6, 99, 0, 0), guided(0, 4, 7, 12), guided(1, 5, 16, 16), guided(1, 6, 17, 99), guided(1, 7, 0, 11), guided(2, 1, 0, 99)}
	for i, x := range []struct {
		guides, legs []int
		at           int
		barred       bool
	}{
		{nil, list(0, 1), 0, true},
		{list(0, 1, 3, 4, 5, 6, 7), list(0, 1), 0, true},
		{list(2), list(0), 0, false},
		{list(2), list(0, 1), 1, true},
		{list(2, 3, 4, 6, 7), list(0, 1), 1, true},
		{list(2, 5), list(0, 1), 0, false},
		{list(5), list(0, 1), 0, true},
		{list(2), list(0, 2), 1, true},
		{list(1, 2), list(0, 2), 0, false},
		{nil, nil, 0, false},
	} {
		j.t.Guides, j.legs = x.guides, x.legs
		why := uint8(api.BarNot)
		if x.barred {
			why = api.BarGuide
		}
		j.wantBarred(t, why, x.at)
		if t.Failed() {
			t.Fatal(i)
		}
	}
	// Neither people nor hosts are guides.
	j.t = api.Troop{Heads: 1, People: list(2, 5), Guests: list(2, 5)}
	j.legs = list(0, 1)
	j.wantBarred(t, api.BarGuide, 0)
	// Who is not the holder is not asked: 3 holds the leg on 12, and 4 nothing.
	j.c.Claims = j.c.Claims[1:3]
	j.wantBarred(t, api.BarNot, 0)
	j.c.Claims = []api.Claim{claim(0, 3, 6, 12, 0, 0), guided(0, 4, 7, 12)}
	j.wantBarred(t, api.BarNot, 0)
	j.c.Claims[1].To = 13
	j.wantBarred(t, api.BarGuide, 0)
	j.c.Claims[1].From = 13
	j.wantBarred(t, api.BarGuide, 0)
	j.c.Claims[1] = guided(0, 4, 14, 99)
	j.wantBarred(t, api.BarNot, 0)
}

// P7.2: the first leg counts, and on it the least reason, on whatever day.
func TestReasons(t *testing.T) {
	j := road()
	j.t.People = list(0)
	// On 10 a guide is missing, on 11 there is a feud, and on 13 a border.
	j.c = api.Custom{
		Claims:  []api.Claim{guided(0, 1, 0, 10), claim(0, 2, 11, 99, 0, 0), guided(1, 3, 0, 12), claim(1, 4, 13, 99, 0, 0)},
		Feuds:   []api.Feud{feud(0, 2, 11, 11), feud(4, 0, 16, 16)},
		Borders: []api.Border{border(0, 13, 13), border(1, 14, 14)},
	}
	j.wantBarred(t, api.BarBorder, 0)
	j.c.Borders = j.c.Borders[1:]
	j.wantBarred(t, api.BarFeud, 0)
	j.c.Feuds = j.c.Feuds[1:]
	j.wantBarred(t, api.BarGuide, 0)
	j.t.Guides = list(1)
	j.wantBarred(t, api.BarBorder, 1)
	j.c.Borders = nil
	j.wantBarred(t, api.BarFeud, 1)
	j.c.Feuds = nil
	j.wantBarred(t, api.BarGuide, 1)
	j.t.Guides = list(1, 3)
	j.wantBarred(t, api.BarNot, 0)
	// The same the other way round: each reason on another day.
	j.t.Guides = nil
	j.c = api.Custom{
		Claims:  []api.Claim{claim(0, 2, 0, 11, 0, 0), guided(0, 1, 12, 99)},
		Feuds:   []api.Feud{feud(0, 2, 11, 11)},
		Borders: []api.Border{border(0, 10, 10)},
	}
	j.wantBarred(t, api.BarBorder, 0)
	j.c.Borders = nil
	j.wantBarred(t, api.BarFeud, 0)
	j.c.Feuds = nil
	j.wantBarred(t, api.BarGuide, 0)
	// The holder wants a guide, and is at feud with him.
	j.c.Feuds = []api.Feud{feud(1, 5, 0, 99)}
	j.t.Guides = list(1, 5)
	j.wantBarred(t, api.BarFeud, 0)
	j.t.Guides = list(1)
	j.wantBarred(t, api.BarNot, 0)
	// The first leg counts though the second one has a lesser reason.
	j.t.Guides = nil
	j.c.Borders = []api.Border{border(1, 0, 99)}
	j.wantBarred(t, api.BarGuide, 0)
}

// P7.2: until the last days.
func TestBarredLate(t *testing.T) {
	j := road()
	j.day, j.legs = 99995, list(0)
	j.c.Borders = []api.Border{border(0, 99999, 100000)}
	j.wantBarred(t, api.BarNot, 0)
	j.day = 99996
	j.wantBarred(t, api.BarBorder, 0)
	j.c = api.Custom{Claims: []api.Claim{guided(0, 1, 99999, 100000)}}
	j.wantBarred(t, api.BarGuide, 0)
	j.day = 99995
	j.wantBarred(t, api.BarNot, 0)
	j.day = 99997
	if why, at, e := j.barred(); why != 0 || at != 0 || e != api.ErrShut {
		t.Error(why, at, e)
	}
	// Something may begin long after one left.
	j.l = paths(2, path(0, 1, span(1, 100000)))
	j.day = 0
	for day := range 17 {
		day *= 6249
		j.c = api.Custom{Borders: []api.Border{border(0, day, day)}}
		j.wantBarred(t, api.BarBorder, 0)
	}
	j.c.Borders[0] = border(0, 99999, 99999)
	j.wantBarred(t, api.BarBorder, 0)
	j.c.Borders[0] = border(0, 100000, 100000)
	j.wantBarred(t, api.BarNot, 0)
}
