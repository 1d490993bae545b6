package toll_test

import (
	"math"
	"slices"
	"testing"

	"azalai/api"
	"azalai/toll"
)

func span(lo, hi int) api.Span { return api.Span{Lo: lo, Hi: hi} }

func exactly(n int) api.Span { return span(n, n) }

// list are numbers.
func list(l ...int) []int { return l }

// leg returns a leg with one gate.
func leg(from, to int, long, opens, shuts api.Span) api.Leg {
	return api.Leg{From: from, To: to, Long: long, Gates: []api.Gate{{Opens: opens, Shuts: shuts}}}
}

// path is a leg that takes so many days at the pace of 1, and is always open.
func path(from, to int, days api.Span) api.Leg {
	return leg(from, to, days, exactly(0), exactly(100000))
}

// paths is a land of n wells with some legs.
func paths(n int, legs ...api.Leg) api.Land {
	return api.Land{Wells: make([]api.Well, n), Legs: legs}
}

// claim is one of which a toll for each animal is taken, and a part of the worth.
func claim(leg, tribe, from, to, head, part int) api.Claim {
	return api.Claim{Leg: leg, Tribe: tribe, From: from, To: to, Head: head, Part: part}
}

// guided is a claim that wants a guide and nothing else.
func guided(leg, tribe, from, to int) api.Claim {
	return api.Claim{Leg: leg, Tribe: tribe, From: from, To: to, Guide: true}
}

func feud(a, b, from, to int) api.Feud { return api.Feud{A: a, B: b, From: from, To: to} }

func border(leg, from, to int) api.Border { return api.Border{Leg: leg, From: from, To: to} }

func fee(tribe, rials int) api.Fee { return api.Fee{Tribe: tribe, Rials: rials} }

func tolled(leg, tribe, lo, hi int) api.Toll {
	return api.Toll{Leg: leg, Tribe: tribe, Rials: span(lo, hi)}
}

func with[T any](v T, change func(*T)) T {
	change(&v)
	return v
}

// due returns no error for what is valid, and a certain one for all else.
func due(valid bool, bad api.Errno) api.Errno {
	if valid {
		return api.OK
	}
	return bad
}

// around are numbers at the edges of a range, and far beyond them, with whether they are in it.
func around(least, most int) map[int]bool {
	return map[int]bool{
		least - 1: false, most + 1: false, least + 1<<40: false, least - 1<<40: false, 1 << 62: false, math.MinInt: false, math.MaxInt: false,
		least: true, most: true,
	}
}

// journey is all that the functions are called with.
type journey struct {
	l                    api.Land
	c                    api.Custom
	t                    api.Troop
	fees                 []api.Fee
	from, to, day, until int
	pace                 api.Span
	legs                 []int
}

func (j journey) barred() (uint8, int, api.Errno) {
	return toll.Barred(j.l, j.c, j.t, j.from, j.day, j.pace, j.legs)
}

func (j journey) due() ([]api.Toll, api.Span, api.Errno) {
	return toll.Due(j.l, j.c, j.t, j.from, j.day, j.pace, j.legs)
}

func (j journey) hire() ([]int, int, api.Errno) {
	return toll.Hire(j.l, j.c, j.t, j.fees, j.from, j.day, j.pace, j.legs)
}

func (j journey) cheapest() ([]int, []int, int, api.Errno) {
	return toll.Cheapest(j.l, j.c, j.t, j.fees, j.from, j.to, j.day, j.until, j.pace)
}

// The journey of the chapter's examples.
func chapter() journey {
	long, opens, shuts := exactly(100000), exactly(0), exactly(1000)
	return journey{
		l: paths(3, leg(0, 1, long, opens, shuts), leg(1, 2, long, opens, shuts)),
		c: api.Custom{
			Claims: []api.Claim{claim(0, 1, 0, 12, 5, 0), {Leg: 0, Tribe: 2, From: 5, To: 100, Head: 8, Guide: true}, claim(1, 3, 0, 14, 0, 10)},
			Feuds:  []api.Feud{feud(2, 4, 13, 20)},
		},
		t:    api.Troop{Heads: 10, Worth: 1000, People: list(4)},
		fees: []api.Fee{fee(1, 20), fee(2, 30)},
		to:   2, day: 10, until: 20,
		pace: span(20000, 25000),
		legs: list(0, 1),
	}
}

// atPeace is the journey of the chapter's examples without the feud.
func atPeace() journey {
	j := chapter()
	j.c.Feuds = nil
	return j
}

func (j journey) wantHolder(t *testing.T, leg, day, want int) {
	t.Helper()
	if i, e := toll.Holder(j.l, j.c, leg, day); i != want || e != api.OK {
		t.Error("Holder", j.c.Claims, leg, day, i, e, "want", want)
	}
}

func (j journey) wantDisputes(t *testing.T, want ...[2]int) {
	t.Helper()
	if l, e := toll.Disputes(j.l, j.c); !slices.Equal(l, want) || e != api.OK {
		t.Error("Disputes", j.c.Claims, l, e, "want", want)
	}
}

func (j journey) wantBarred(t *testing.T, why uint8, at int) {
	t.Helper()
	if w, i, e := j.barred(); w != why || i != at || e != api.OK {
		t.Errorf("Barred %+v: %v %v %v, want %v %v", j, w, i, e, why, at)
	}
}

func (j journey) wantDue(t *testing.T, all api.Span, tolls ...api.Toll) {
	t.Helper()
	if l, s, e := j.due(); !slices.Equal(l, tolls) || s != all || e != api.OK {
		t.Errorf("Due %+v: %v %v %v, want %v %v", j, l, s, e, tolls, all)
	}
}

func (j journey) wantHired(t *testing.T, rials int, guides ...int) {
	t.Helper()
	if l, n, e := j.hire(); !slices.Equal(l, guides) || n != rials || e != api.OK {
		t.Errorf("Hire %+v: %v %v %v, want %v %v", j, l, n, e, guides, rials)
	}
}

func (j journey) wantCheapest(t *testing.T, legs, guides []int, rials int) {
	t.Helper()
	if l, g, n, e := j.cheapest(); !slices.Equal(l, legs) || !slices.Equal(g, guides) || n != rials || e != api.OK {
		t.Errorf("Cheapest %+v: %v %v %v %v, want %v %v %v", j, l, g, n, e, legs, guides, rials)
	}
}

// outcome is the error of a call, and whether all its other results are zero values.
type outcome struct {
	e    api.Errno
	zero bool
}

// outcomes calls each function, Holder for the first leg of the way.
func (j journey) outcomes() map[string]outcome {
	first := 0
	if len(j.legs) > 0 {
		first = j.legs[0]
	}
	holder, e := toll.Holder(j.l, j.c, first, j.day)
	disputes, f := toll.Disputes(j.l, j.c)
	why, at, g := j.barred()
	tolls, all, h := j.due()
	guides, rials, i := j.hire()
	legs, guides2, rials2, k := j.cheapest()
	return map[string]outcome{
		"Check":    {toll.Check(j.l, j.c), true},
		"Holder":   {e, holder == 0},
		"Disputes": {f, len(disputes) == 0},
		"Barred":   {g, why == 0 && at == 0},
		"Due":      {h, len(tolls) == 0 && all == api.Span{}},
		"Hire":     {i, len(guides) == 0 && rials == 0},
		"Cheapest": {k, len(legs) == 0 && len(guides2) == 0 && rials2 == 0},
	}
}

// wantErrors checks the error of some functions, all others have none; beside an error there are zero values.
func (j journey) wantErrors(t *testing.T, e api.Errno, names ...string) {
	t.Helper()
	for name, got := range j.outcomes() {
		if want := due(!slices.Contains(names, name), e); got.e != want || want != api.OK && !got.zero {
			t.Errorf("%s %+v: %v, want %v", name, j, got, want)
		}
	}
}

// all are all functions, in the order of the chapter; those of troops have a troop, those of ways the legs of one.
var (
	all      = []string{"Check", "Holder", "Disputes", "Barred", "Due", "Hire", "Cheapest"}
	ofTroops = []string{"Barred", "Due", "Hire", "Cheapest"}
	ofWays   = []string{"Barred", "Due", "Hire"}
	withFees = []string{"Hire", "Cheapest"}
)

func TestExamples(t *testing.T) {
	j := chapter()
	j.wantHolder(t, 0, 12, 0)
	j.wantHolder(t, 0, 13, 1)
	j.wantHolder(t, 1, 15, -1)
	j.wantDisputes(t, [2]int{0, 1})
	j.wantBarred(t, api.BarFeud, 0)
	atPeace().wantBarred(t, api.BarGuide, 0)
	with(atPeace(), func(j *journey) { j.t.Guides = list(2) }).wantBarred(t, api.BarNot, 0)
	j.wantDue(t, span(50, 60), tolled(0, 1, 50, 50), tolled(1, 3, 0, 10))
	atPeace().wantHired(t, 30, 2)
	atPeace().wantCheapest(t, list(0, 1), list(2), 90)
}

// valid is a journey on which nothing is due, and nothing is barred, by two legs of a day each.
func valid() journey {
	return journey{
		l: paths(3, path(0, 1, exactly(1)), path(1, 2, exactly(1))),
		c: api.Custom{
			Claims:  []api.Claim{claim(0, 1, 0, 9, 0, 0), claim(1, 2, 0, 9, 0, 0)},
			Feuds:   []api.Feud{feud(0, 1, 0, 9), feud(2, 3, 0, 9)},
			Borders: []api.Border{border(0, 5, 9), border(1, 5, 9)},
		},
		t:    api.Troop{Heads: 1},
		fees: []api.Fee{fee(4, 0), fee(6, 0)},
		to:   2, until: 100,
		pace: exactly(1),
		legs: list(0, 1),
	}
}

// P7.1: the range of each number of customs, in the last one of a list and in the first one; all functions return the error.
func TestCheckNumbers(t *testing.T) {
	for name, x := range map[string]struct {
		least, most int
		e           api.Errno
		of          func(c api.Custom, i int) *int
	}{
		"claim Leg":   {0, 1, api.ErrClaims, func(c api.Custom, i int) *int { return &c.Claims[i].Leg }},
		"claim Tribe": {0, 7, api.ErrClaims, func(c api.Custom, i int) *int { return &c.Claims[i].Tribe }},
		"claim From":  {0, 9, api.ErrClaims, func(c api.Custom, i int) *int { return &c.Claims[i].From }},
		"claim To":    {0, 100000, api.ErrClaims, func(c api.Custom, i int) *int { return &c.Claims[i].To }},
		"claim Head":  {0, 1000000, api.ErrClaims, func(c api.Custom, i int) *int { return &c.Claims[i].Head }},
		"claim Part":  {0, 1000, api.ErrClaims, func(c api.Custom, i int) *int { return &c.Claims[i].Part }},
		"feud A":      {0, 7, api.ErrFeuds, func(c api.Custom, i int) *int { c.Feuds[i].B = 5; return &c.Feuds[i].A }},
		"feud B":      {0, 7, api.ErrFeuds, func(c api.Custom, i int) *int { c.Feuds[i].A = 5; return &c.Feuds[i].B }},
		"feud From":   {0, 9, api.ErrFeuds, func(c api.Custom, i int) *int { return &c.Feuds[i].From }},
		"feud To":     {0, 100000, api.ErrFeuds, func(c api.Custom, i int) *int { return &c.Feuds[i].To }},
		"border Leg":  {0, 1, api.ErrBorders, func(c api.Custom, i int) *int { return &c.Borders[i].Leg }},
		"border From": {0, 9, api.ErrBorders, func(c api.Custom, i int) *int { return &c.Borders[i].From }},
		"border To":   {5, 100000, api.ErrBorders, func(c api.Custom, i int) *int { return &c.Borders[i].To }},
	} {
		for i := range 2 {
			for n, ok := range around(x.least, x.most) {
				j := valid()
				*x.of(j.c, i) = n
				if ok {
					if e := toll.Check(j.l, j.c); e != api.OK {
						t.Error(name, i, n, e)
					}
					continue
				}
				j.wantErrors(t, x.e, all...)
			}
		}
	}
}

// P7.1: how many there may be of each, and which ones go together.
func TestCheckLists(t *testing.T) {
	for i, x := range []struct {
		c api.Custom
		e api.Errno
	}{
		{api.Custom{}, api.OK},
		{api.Custom{Claims: []api.Claim{}, Feuds: []api.Feud{}, Borders: []api.Border{}}, api.OK},
		{api.Custom{Claims: slices.Repeat([]api.Claim{claim(1, 7, 3, 3, 0, 0)}, 30)}, api.OK},
		{api.Custom{Claims: slices.Repeat([]api.Claim{claim(1, 7, 3, 3, 0, 0)}, 31)}, api.ErrClaims},
		{api.Custom{Feuds: slices.Repeat([]api.Feud{feud(7, 0, 3, 3)}, 20)}, api.OK},
		{api.Custom{Feuds: slices.Repeat([]api.Feud{feud(7, 0, 3, 3)}, 21)}, api.ErrFeuds},
		{api.Custom{Borders: slices.Repeat([]api.Border{border(1, 30, 30)}, 20)}, api.OK},
		{api.Custom{Borders: slices.Repeat([]api.Border{border(1, 30, 30)}, 21)}, api.ErrBorders},
		{api.Custom{Feuds: []api.Feud{feud(0, 0, 0, 9)}}, api.ErrFeuds},
		{api.Custom{Feuds: []api.Feud{feud(0, 1, 0, 9), feud(7, 7, 0, 9)}}, api.ErrFeuds},
		{api.Custom{Feuds: []api.Feud{feud(0, 1, 0, 9), feud(1, 0, 0, 9)}}, api.OK},
		{api.Custom{Claims: []api.Claim{claim(0, 0, 0, 0, 0, 0), claim(0, 0, 100000, 100000, 0, 0)}}, api.OK},
		{api.Custom{Claims: []api.Claim{claim(0, 0, 8, 7, 0, 0)}}, api.ErrClaims},
		{api.Custom{Feuds: []api.Feud{feud(0, 1, 8, 7)}}, api.ErrFeuds},
		{api.Custom{Borders: []api.Border{border(0, 8, 7)}}, api.ErrBorders},
		{api.Custom{Borders: []api.Border{border(0, 0, 0), border(1, 100000, 100000), border(1, 0, 100000)}}, api.OK},
		// Claims come before feuds, and these before borders.
		{api.Custom{Claims: []api.Claim{claim(2, 0, 0, 0, 0, 0)}, Feuds: []api.Feud{feud(0, 0, 0, 0)}, Borders: []api.Border{border(2, 0, 0)}}, api.ErrClaims},
		{api.Custom{Claims: []api.Claim{claim(1, 0, 0, 0, 0, 0)}, Feuds: []api.Feud{feud(0, 0, 0, 0)}, Borders: []api.Border{border(2, 0, 0)}}, api.ErrFeuds},
		{api.Custom{Claims: []api.Claim{claim(1, 0, 0, 0, 0, 0)}, Feuds: []api.Feud{feud(0, 1, 0, 0)}, Borders: []api.Border{border(2, 0, 0)}}, api.ErrBorders},
	} {
		j := valid()
		j.c = x.c
		if e := toll.Check(j.l, j.c); e != x.e {
			t.Error(i, e, "want", x.e)
		}
		if x.e != api.OK {
			j.wantErrors(t, x.e, all...)
		}
		// A land that is not valid counts before all of them.
		j.l.Legs[0].Long.Lo = 0
		j.wantErrors(t, api.ErrLand, all...)
	}
}

// P7.1: without legs there is nothing to be claimed or closed.
func TestNoLegs(t *testing.T) {
	l := paths(2)
	for i, x := range []struct {
		c api.Custom
		e api.Errno
	}{
		{api.Custom{Feuds: []api.Feud{feud(0, 1, 0, 0)}}, api.OK},
		{api.Custom{Claims: []api.Claim{{}}}, api.ErrClaims},
		{api.Custom{Borders: []api.Border{{}}}, api.ErrBorders},
	} {
		if e := toll.Check(l, x.c); e != x.e {
			t.Error(i, e)
		}
	}
	if i, e := toll.Holder(l, api.Custom{}, 0, 0); i != 0 || e != api.ErrArg {
		t.Error(i, e)
	}
}

// P7.1: the index of a leg, and a day.
func TestHolderArguments(t *testing.T) {
	j := chapter()
	for n, ok := range around(0, 1) {
		if i, e := toll.Holder(j.l, j.c, n, 100000); e != due(ok, api.ErrArg) || ok && i != -1 || !ok && i != 0 {
			t.Error(n, i, e)
		}
	}
	for n, ok := range around(0, 100000) {
		if i, e := toll.Holder(j.l, api.Custom{}, 1, n); e != due(ok, api.ErrArg) || ok && i != -1 || !ok && i != 0 {
			t.Error(n, i, e)
		}
	}
}

// P7.1: of the claims that are in force that of the least From, then that of the lesser tribe, then the first one.
func TestHolder(t *testing.T) {
	j := chapter()
	j.c.Claims = []api.Claim{
		claim(0, 5, 10, 30, 1, 0), // 0
		claim(0, 3, 10, 20, 2, 0), // 1
		claim(0, 3, 10, 25, 3, 0), // 2
		claim(1, 0, 0, 99, 4, 0),  // 3
		claim(0, 7, 9, 12, 5, 0),  // 4
		claim(0, 0, 11, 40, 6, 0), // 5
		claim(0, 6, 0, 3, 7, 0),   // 6
		claim(0, 2, 40, 50, 8, 0), // 7
		claim(0, 2, 40, 60, 9, 0), // 8
		claim(1, 7, 0, 0, 9, 0),   // 9
		claim(0, 1, 100000, 100000, 9, 0),
	}
	for leg, holders := range []map[int]int{
		{0: 6, 3: 6, 4: -1, 8: -1, 9: 4, 10: 4, 12: 4, 13: 1, 20: 1, 21: 2, 25: 2, 26: 0, 30: 0, 31: 5, 40: 5, 41: 7, 50: 7, 51: 8, 60: 8, 61: -1, 99999: -1, 100000: 10},
		{0: 3, 1: 3, 99: 3, 100: -1},
	} {
		for day, want := range holders {
			j.wantHolder(t, leg, day, want)
		}
	}
}

// P7.1: two claims of different tribes to the same leg, on the same day.
func TestDisputes(t *testing.T) {
	j := chapter()
	j.c.Claims = nil
	j.wantDisputes(t)
	for i, x := range []struct {
		a, b api.Claim
		so   bool
	}{
		{claim(0, 1, 5, 9, 0, 0), claim(0, 2, 5, 9, 0, 0), true},
		{claim(0, 2, 5, 9, 0, 0), claim(0, 1, 9, 12, 0, 0), true},
		{claim(0, 2, 5, 9, 0, 0), claim(0, 1, 10, 12, 0, 0), false},
		{claim(0, 2, 5, 9, 0, 0), claim(0, 1, 0, 5, 0, 0), true},
		{claim(0, 2, 5, 9, 0, 0), claim(0, 1, 0, 4, 0, 0), false},
		{claim(0, 2, 5, 9, 0, 0), claim(0, 1, 7, 7, 0, 0), true},
		{claim(0, 2, 7, 7, 0, 0), claim(0, 1, 5, 9, 0, 0), true},
		{claim(0, 2, 7, 7, 0, 0), claim(0, 1, 7, 7, 0, 0), true},
		{claim(0, 2, 7, 7, 0, 0), claim(0, 1, 0, 100000, 0, 0), true},
		{claim(0, 2, 5, 9, 0, 0), claim(1, 1, 5, 9, 0, 0), false},
		{claim(0, 2, 5, 9, 0, 0), claim(0, 2, 5, 9, 0, 0), false},
		{claim(0, 0, 0, 0, 0, 0), claim(0, 7, 0, 0, 0, 0), true},
	} {
		for _, claims := range [][]api.Claim{{x.a, x.b}, {x.b, x.a}} {
			j.c.Claims = claims
			if x.so {
				j.wantDisputes(t, [2]int{0, 1})
			} else {
				j.wantDisputes(t)
			}
			if t.Failed() {
				t.Fatal(i)
			}
		}
	}
	j.c.Claims = []api.Claim{claim(1, 4, 0, 9, 0, 0), claim(0, 1, 0, 5, 0, 0), claim(0, 2, 4, 9, 0, 0), claim(1, 3, 9, 9, 0, 0), claim(0, 1, 9, 12, 0, 0), claim(0, 3, 5, 8, 0, 0)}
	j.wantDisputes(t, [2]int{0, 3}, [2]int{1, 2}, [2]int{1, 5}, [2]int{2, 4}, [2]int{2, 5})
}

// P7.1: as many pairs as there can be.
func TestManyDisputes(t *testing.T) {
	j := chapter()
	j.c.Claims = nil
	var want [][2]int
	for i := range 30 {
		j.c.Claims = append(j.c.Claims, claim(1, i%8, 70, 70+i, 0, 0))
		for k := i + 1; k < 30; k++ {
			if k%8 != i%8 {
				want = append(want, [2]int{i, k})
			}
		}
	}
	j.wantDisputes(t, want...)
}
