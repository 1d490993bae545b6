package toll_test

import (
	"math"
	"math/rand/v2"
	"slices"
	"testing"
	"time"

	"azalai/api"
	"azalai/toll"
	"azalai/way"
)

// The signatures of the chapter.
var (
	_ func(l api.Land, c api.Custom) api.Errno                                                                                                          = toll.Check
	_ func(l api.Land, c api.Custom, leg, day int) (int, api.Errno)                                                                                     = toll.Holder
	_ func(l api.Land, c api.Custom) ([][2]int, api.Errno)                                                                                              = toll.Disputes
	_ func(l api.Land, c api.Custom, t api.Troop, from, day int, pace api.Span, legs []int) (why uint8, at int, e api.Errno)                            = toll.Barred
	_ func(l api.Land, c api.Custom, t api.Troop, from, day int, pace api.Span, legs []int) (tolls []api.Toll, all api.Span, e api.Errno)               = toll.Due
	_ func(l api.Land, c api.Custom, t api.Troop, fees []api.Fee, from, day int, pace api.Span, legs []int) (guides []int, rials int, e api.Errno)      = toll.Hire
	_ func(l api.Land, c api.Custom, t api.Troop, fees []api.Fee, from, to, day, until int, pace api.Span) (legs, guides []int, rials int, e api.Errno) = toll.Cheapest
)

// R1, R2: of several errors the first one, with zero values.
func TestOrderOfErrors(t *testing.T) {
	land, claims, feuds, borders, troop, fees := api.ErrLand, api.ErrClaims, api.ErrFeuds, api.ErrBorders, api.ErrTroop, api.ErrFees
	arg, pace, many, bad, shut, barred, full := api.ErrArg, api.ErrPace, api.ErrMany, api.ErrBad, api.ErrShut, api.ErrBarred, api.ErrFull
	right := valid()
	j := journey{
		l: paths(3, path(0, 1, exactly(1)), path(1, 2, exactly(0))),
		c: api.Custom{
			Claims:  []api.Claim{claim(0, 8, 0, 9, 0, 0)},
			Feuds:   []api.Feud{feud(1, 1, 0, 9)},
			Borders: []api.Border{border(0, 5, 4)},
		},
		fees: []api.Fee{fee(4, -1)},
		from: -1, to: -1, day: -1, until: -1,
		legs: slices.Repeat([]int{9}, 25),
	}
	// One after the other is put right.
	for i, x := range []struct {
		change func()
		want   []api.Errno // of all, in their order
	}{
		{func() {}, []api.Errno{land, land, land, land, land, land, land}},
		{func() { j.l = right.l }, []api.Errno{claims, claims, claims, claims, claims, claims, claims}},
		{func() { j.c.Claims = right.c.Claims }, []api.Errno{feuds, feuds, feuds, feuds, feuds, feuds, feuds}},
		{func() { j.c.Feuds = right.c.Feuds }, []api.Errno{borders, borders, borders, borders, borders, borders, borders}},
		{func() { j.c.Borders = right.c.Borders }, []api.Errno{0, arg, 0, troop, troop, troop, troop}},
		{func() { j.t = right.t }, []api.Errno{0, arg, 0, pace, pace, fees, fees}},
		{func() { j.fees = right.fees }, []api.Errno{0, arg, 0, pace, pace, pace, pace}},
		{func() { j.pace = right.pace }, []api.Errno{0, arg, 0, arg, arg, arg, arg}},
		{func() { j.from = 0 }, []api.Errno{0, arg, 0, arg, arg, arg, arg}},
		{func() { j.day = 0 }, []api.Errno{0, arg, 0, many, many, many, arg}},
		{func() { j.legs, j.to = list(0, 1, 7), 2 }, []api.Errno{0, 0, 0, bad, bad, bad, arg}},
		{func() { j.legs, j.until = list(0, 0, 1), 100 }, []api.Errno{0, 0, 0, bad, bad, bad, 0}},
		{func() { j.legs, j.day = list(0, 1), 99999 }, []api.Errno{0, 0, 0, shut, shut, shut, barred}},
		{func() { j.day = 0; j.c.Claims = []api.Claim{guided(1, 0, 0, 9)} }, []api.Errno{0, 0, 0, 0, 0, barred, barred}},
		{func() { j.fees = []api.Fee{fee(0, 7)} }, []api.Errno{0, 0, 0, 0, 0, 0, 0}},
		{func() {
			j.l = paths(9)
			for i := range 8 {
				j.l.Legs = append(j.l.Legs, slices.Repeat([]api.Leg{path(i, i+1, exactly(1))}, 3)...)
			}
			j.to, j.fees, j.legs = 8, nil, list(1)
		}, []api.Errno{0, 0, 0, 0, 0, barred, full}},
		{func() { j.fees = []api.Fee{fee(8, 0)} }, []api.Errno{0, 0, 0, 0, 0, fees, fees}},
		{func() { j.t.Heads = 0 }, []api.Errno{0, 0, 0, troop, troop, troop, troop}},
	} {
		x.change()
		got := j.outcomes()
		for k, name := range all {
			if got[name].e != x.want[k] || x.want[k] != api.OK && !got[name].zero {
				t.Error(i, name, got[name], "want", x.want[k])
			}
		}
	}
}

// R1, P7.2 to P7.4: the errors of way.Walk are those that it has.
func TestErrorsOfWalk(t *testing.T) {
	r := rand.New(rand.NewPCG(7, 20))
	seen := map[api.Errno]int{}
	for range 3000 {
		j, _ := someJourney(r)
		j.c.Borders = nil
		for i := range j.c.Claims {
			j.c.Claims[i].Guide = false
		}
		j.c.Feuds = nil
		switch r.IntN(4) {
		case 0:
			j.legs = append(j.legs, r.IntN(9)-1)
		case 1:
			j.day = min(j.day+r.IntN(window), 100000)
		case 2:
			j.from = edge(r, -1, len(j.l.Wells))
		case 3:
			j.legs = slices.Repeat(j.legs, r.IntN(20))
		}
		_, _, e := way.Walk(j.l, j.from, j.day, j.pace, j.legs)
		got := j.outcomes()
		for _, name := range ofWays {
			if got[name].e != e || e != api.OK && !got[name].zero {
				t.Fatalf("%s %+v: %v, want %v", name, j, got[name], e)
			}
		}
		seen[e]++
	}
	for _, e := range []api.Errno{api.OK, api.ErrArg, api.ErrMany, api.ErrBad, api.ErrShut} {
		if seen[e] < 50 {
			t.Error(seen)
		}
	}
}

// edge returns a number that may be at an edge of a range, or far beyond it.
func edge(r *rand.Rand, least, most int) int {
	switch {
	case r.IntN(800) == 0:
		return []int{math.MinInt, -1 << 32, least - 1, most + 1, 1 << 32, 1 << 62, math.MaxInt}[r.IntN(7)]
	case r.IntN(10) == 0:
		return []int{least, most}[r.IntN(2)]
	}
	return least + r.IntN(most-least+1)
}

func edges(r *rand.Rand, least, most int) api.Span {
	a, b := edge(r, least, most), edge(r, least, most)
	if r.IntN(500) > 0 {
		a, b = min(a, b), max(a, b)
	}
	return span(a, b)
}

// anyTribes are some tribes that are mostly in increasing order.
func anyTribes(r *rand.Rand) []int {
	var l []int
	for tribe := range 8 {
		if r.IntN(3) == 0 {
			l = append(l, tribe)
		}
	}
	switch r.IntN(200) {
	case 0:
		slices.Reverse(l)
	case 1:
		l = append(l, edge(r, 7, 8))
	case 2:
		l = slices.Repeat(l, 2)
	}
	return l
}

// anyJourney returns a call that is mostly valid, with numbers from all of their ranges.
func anyJourney(r *rand.Rand) journey {
	j := journey{
		l:    paths(1 + r.IntN(4)),
		t:    api.Troop{Heads: edge(r, 1, 1000), Worth: edge(r, 0, 1000000000000), People: anyTribes(r), Guides: anyTribes(r), Guests: anyTribes(r)},
		pace: edges(r, 1, 100000), day: edge(r, 0, 100000), until: edge(r, 0, 100000),
	}
	wells := len(j.l.Wells)
	j.from, j.to = edge(r, 0, wells-1), edge(r, 0, wells-1)
	for range r.IntN(8) {
		if wells > 1 {
			from := r.IntN(wells)
			j.l.Legs = append(j.l.Legs, leg(from, (from+1+r.IntN(wells-1))%wells, edges(r, 1, 1000000), edges(r, 0, 20000), edges(r, 80000, 100000)))
		}
	}
	legs := len(j.l.Legs)
	for range r.IntN(31) + r.IntN(50)/49 {
		days := edges(r, 0, 100000)
		x := claim(edge(r, 0, max(legs-1, 0)), edge(r, 0, 7), days.Lo, days.Hi, edge(r, 0, 1000000), edge(r, 0, 1000))
		x.Guide = r.IntN(5) == 0
		j.c.Claims = append(j.c.Claims, x)
	}
	for range r.IntN(21) + r.IntN(50)/49 {
		days, a := edges(r, 0, 100000), r.IntN(8)
		days.Hi = max(days.Lo, min(days.Hi, days.Lo+edge(r, 0, 3000)))
		j.c.Feuds = append(j.c.Feuds, feud(a, (a+1+r.IntN(7))%8+r.IntN(300)/299, days.Lo, days.Hi))
	}
	for range (r.IntN(21) + r.IntN(50)/49) * r.IntN(2) {
		day := edge(r, 0, 100000)
		j.c.Borders = append(j.c.Borders, border(edge(r, 0, max(legs-1, 0)), day, day+r.IntN(2)))
	}
	for _, tribe := range anyTribes(r) {
		j.fees = append(j.fees, fee(tribe, edge(r, 0, 1000000000000)))
	}
	if 0 <= j.from && j.from < wells && legs > 0 {
		j.legs = someWay(r, j.l, j.from)
	}
	if r.IntN(20) == 0 {
		j.legs = append(j.legs, edge(r, 0, 9))
	}
	if r.IntN(50) == 0 {
		j.legs = slices.Repeat(j.legs, 20)
	}
	return j
}

// R5, R6, R7: any values lead to an end without a panic, and to zero values beside an error.
func TestAnyValue(t *testing.T) {
	r := rand.New(rand.NewPCG(7, 17))
	seen := map[api.Errno]int{}
	for range 20000 {
		j := anyJourney(r)
		for name, got := range j.outcomes() {
			if got.e != api.OK && !got.zero {
				t.Fatalf("%s %+v: %v", name, j, got)
			}
			seen[got.e]++
		}
	}
	for _, e := range []api.Errno{api.OK, api.ErrArg, api.ErrMany, api.ErrBad, api.ErrLand, api.ErrPace, api.ErrShut, api.ErrClaims, api.ErrFeuds, api.ErrBorders, api.ErrTroop, api.ErrFees, api.ErrBarred} {
		if seen[e] < 50 {
			t.Error(e, seen)
		}
	}
}

// R6: claims, feuds and borders that are there twice, a holder among the people, and a guide who is there already.
func TestOddValues(t *testing.T) {
	j := road()
	j.c = api.Custom{
		Claims:  slices.Repeat([]api.Claim{{Leg: 0, Tribe: 7, From: 10, To: 10, Head: 5, Guide: true}}, 30),
		Feuds:   slices.Repeat([]api.Feud{feud(6, 5, 10, 10)}, 20),
		Borders: slices.Repeat([]api.Border{border(0, 9, 9)}, 20),
	}
	j.t.People, j.t.Guides = list(0, 1, 2, 3, 4, 5, 6, 7), list(7)
	j.fees = []api.Fee{fee(5, 0), fee(6, 0), fee(7, 0)}
	j.wantHolder(t, 0, 10, 0)
	j.wantDisputes(t)
	j.wantBarred(t, api.BarNot, 0)
	j.wantDue(t, exactly(5), tolled(0, 7, 5, 5))
	j.wantHired(t, 0)
	j.wantCheapest(t, list(0, 1), nil, 5)
}

// R4: a nil list is an empty one.
func TestNil(t *testing.T) {
	for _, j := range []journey{
		{},
		{legs: []int{}, fees: []api.Fee{}, t: api.Troop{People: []int{}, Guides: []int{}, Guests: []int{}}, c: api.Custom{Claims: []api.Claim{}, Feuds: []api.Feud{}, Borders: []api.Border{}}},
	} {
		j.l, j.t.Heads, j.pace = paths(1), 1, exactly(1)
		j.wantErrors(t, api.ErrArg, "Holder")
		j.wantBarred(t, api.BarNot, 0)
		j.wantDue(t, api.Span{})
		j.wantHired(t, 0)
		j.wantCheapest(t, nil, nil, 0)
		j.wantDisputes(t)
	}
}

// spare returns a list whose memory goes on behind its end.
func spare[T any](l []T, behind T) []T {
	return append(slices.Clone(l), slices.Repeat([]T{behind}, 20)...)[:len(l)]
}

// whole returns a copy of a list and of the memory behind its end that spare made.
func whole[T any](l []T) []T { return slices.Clone(l[:len(l)+20]) }

// spareJourney is a journey with one guide who is hired, whose lists all have memory behind their ends.
func spareJourney() journey {
	j := fork()
	j.c = api.Custom{
		Claims:  spare([]api.Claim{{Leg: 3, Tribe: 1, To: 99, Head: 7, Part: 500, Guide: true}, claim(2, 2, 0, 99, 30, 0), claim(3, 2, 5, 99, 1, 0), claim(0, 2, 5, 99, 1, 0)}, claim(7, 7, 7, 7, 7, 7)),
		Feuds:   spare([]api.Feud{feud(3, 4, 0, 99), feud(0, 2, 0, 9)}, feud(7, 7, 7, 7)),
		Borders: spare([]api.Border{border(2, 20, 99), border(0, 0, 9)}, border(7, 7, 7)),
	}
	j.t = api.Troop{Heads: 1, Worth: 3, People: spare(list(0, 3), 77), Guides: spare(list(4), 77), Guests: spare(list(5, 6), 77)}
	j.fees = spare(j.fees, fee(7, 7))
	j.legs = spare(list(0, 3), 77)
	j.l.Wells = spare(j.l.Wells, api.Well{X: 77})
	for i, leg := range j.l.Legs {
		j.l.Legs[i].Gates = spare(leg.Gates, api.Gate{Opens: exactly(77)})
	}
	j.l.Legs = spare(j.l.Legs, api.Leg{From: 77})
	return j
}

// same tells whether the lists of two journeys are the same, with the memory behind their ends.
func same(a, b journey) bool {
	for i := range a.l.Legs {
		if !slices.Equal(whole(a.l.Legs[i].Gates), whole(b.l.Legs[i].Gates)) {
			return false
		}
	}
	equalLegs := func(a, b api.Leg) bool {
		return a.From == b.From && a.To == b.To && a.Long == b.Long && slices.Equal(a.Gates, b.Gates)
	}
	return slices.Equal(whole(a.l.Wells), whole(b.l.Wells)) && slices.EqualFunc(whole(a.l.Legs), whole(b.l.Legs), equalLegs) &&
		slices.Equal(whole(a.c.Claims), whole(b.c.Claims)) && slices.Equal(whole(a.c.Feuds), whole(b.c.Feuds)) && slices.Equal(whole(a.c.Borders), whole(b.c.Borders)) &&
		slices.Equal(whole(a.t.People), whole(b.t.People)) && slices.Equal(whole(a.t.Guides), whole(b.t.Guides)) && slices.Equal(whole(a.t.Guests), whole(b.t.Guests)) &&
		slices.Equal(whole(a.fees), whole(b.fees)) && slices.Equal(whole(a.legs), whole(b.legs))
}

// R3: no argument is written to, nor what lies behind its end.
func TestArguments(t *testing.T) {
	j := spareJourney()
	j.wantErrors(t, api.OK)
	if !same(j, spareJourney()) {
		t.Errorf("an argument is written to: %+v", j)
	}
	// Nor beside an error.
	j.day = 99999
	for _, name := range ofTroops {
		if got := j.outcomes()[name]; got.e == api.OK || !got.zero {
			t.Error(name, got)
		}
	}
	if j.day = 10; !same(j, spareJourney()) {
		t.Errorf("an argument is written to: %+v", j)
	}
}

// spoil overwrites a list with all its memory.
func spoil[T any](l []T, with T) {
	l = l[:cap(l)]
	for i := range l {
		l[i] = with
	}
}

// R3: results share no memory with arguments or with each other, and no call remembers another one.
func TestResults(t *testing.T) {
	j := spareJourney()
	for range 3 {
		j.wantDisputes(t, [2]int{0, 2})
		disputes, _ := toll.Disputes(j.l, j.c)
		spoil(disputes, [2]int{7, 7})
		j.wantDue(t, exactly(10), tolled(0, 2, 1, 1), tolled(1, 1, 9, 9))
		tolls, _, _ := j.due()
		spoil(tolls, tolled(7, 7, 7, 7))
		j.wantHired(t, 10, 1)
		guides, _, _ := j.hire()
		spoil(guides, 77)
		j.wantCheapest(t, list(1, 3), list(1), 19)
		legs, guides, _, _ := j.cheapest()
		spoil(legs, 77)
		if !slices.Equal(guides, list(1)) {
			t.Error("results share memory", guides)
		}
		spoil(guides, 77)
		// What was so in the call before is not so in another one.
		k := fork()
		k.legs = list(2)
		k.wantDisputes(t)
		k.wantDue(t, api.Span{})
		k.wantHired(t, 0)
		k.wantCheapest(t, list(0, 3), nil, 0)
	}
	if !same(j, spareJourney()) {
		t.Errorf("an argument is written to: %+v", j)
	}
}

// longest is a journey with 192 ways of 11 legs, on each of which one may be on thousands of days, and the last of which changes hands often.
func longest() journey {
	j := journey{l: paths(12), t: api.Troop{Heads: 1}, to: 11, until: 100000, pace: span(1, 2)}
	for i, paths := range []int{3, 2, 2, 2, 2, 2, 2, 1, 1, 1, 1} {
		j.l.Legs = append(j.l.Legs, slices.Repeat([]api.Leg{path(i, i+1, span(1, 4000))}, paths)...)
	}
	for i := range 30 {
		j.c.Claims = append(j.c.Claims, claim(18, i%8, 100*i, 10000+1000*i, 1+i, 0))
	}
	for i := range 20 {
		j.c.Feuds = append(j.c.Feuds, feud(6, 7, 10000+100*i, 10050+100*i))
	}
	for tribe := range 8 {
		j.fees = append(j.fees, fee(tribe, 1))
	}
	return j
}

// R7: each call ends, also with as many ways, customs and guides as there can be.
func TestEnds(t *testing.T) {
	j := longest()
	first := list(0, 3, 5, 7, 9, 11, 13, 15, 16, 17, 18)
	if ways, e := way.Ways(j.l, j.from, j.to, j.day, j.until, j.pace); len(ways) != 192 || e != api.OK || !slices.Equal(ways[0], first) {
		t.Fatal(len(ways), e)
	}
	start := time.Now()
	j.wantCheapest(t, first, nil, 30)
	j.c.Claims[29].Guide = true
	j.wantCheapest(t, first, list(5), 31)
	// The people are at feud with the last holder, whoever guides them.
	j.t.People, j.c.Feuds[19] = list(4), feud(4, 5, 39000, 39000)
	if legs, guides, rials, e := j.cheapest(); len(legs) != 0 || len(guides) != 0 || rials != 0 || e != api.ErrBarred {
		t.Error(legs, guides, rials, e)
	}
	if took := time.Since(start); took > 20*time.Second {
		t.Error(took)
	}
}
