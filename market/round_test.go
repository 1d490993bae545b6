package market_test

import (
	"math/rand/v2"
	"slices"
	"testing"

	"azalai/api"
	"azalai/market"
)

// P6.5: the ranges of the numbers; they are looked at before whether there is a round.
func TestRoundArguments(t *testing.T) {
	round := []api.Offer{offer(0, 1, 1, exactly(2)), offer(1, 1, 0, exactly(2))}
	for n, valid := range around(0, 9999) {
		here := round
		if valid {
			here = []api.Offer{from(n, 0, 9, round[0]), from(n, 0, 9, round[1])}
			wantRound(t, here, n, 7, list(0, 1), api.OK)
			wantRound(t, nil, n, 7, nil, api.ErrNone)
			continue
		}
		wantRound(t, here, n, 7, nil, api.ErrArg)
		wantRound(t, nil, n, 7, nil, api.ErrArg)
	}
	for n, valid := range around(0, 100000) {
		if valid {
			wantRound(t, round, 1, n, list(0, 1), api.OK)
			wantRound(t, nil, 1, n, nil, api.ErrNone)
			continue
		}
		wantRound(t, round, 1, n, nil, api.ErrArg)
		wantRound(t, nil, 1, n, nil, api.ErrArg)
	}
}

// wheel returns offers that go round so many goods from the first one on, each for so many units.
func wheel(first, goods int, units, for_ []int) []api.Offer {
	var l []api.Offer
	for i := range goods {
		l = append(l, offer((first+i)%goods, units[i], (first+i+1)%goods, exactly(for_[i])))
	}
	return l
}

// P6.5: a round gives more for sure, and no good twice; the shortest one is returned, and of these the first one.
func TestRound(t *testing.T) {
	two := func(units, get, back, for_ int) []api.Offer {
		return []api.Offer{offer(0, units, 1, exactly(get)), offer(1, back, 0, exactly(for_))}
	}
	ones := list(1, 1, 1, 1, 1)
	for i, x := range []struct {
		offers []api.Offer
		round  []int
	}{
		{two(6, 5, 4, 5), list(0, 1)},
		{two(6, 5, 5, 6), nil},
		{two(6, 5, 4, 4), nil},
		{two(50, 49, 49, 50), nil},
		{two(50, 50, 49, 50), list(0, 1)},
		{two(50, 49, 48, 50), list(0, 1)},
		{[]api.Offer{offer(1, 1, 0, exactly(2)), offer(0, 1, 1, exactly(1))}, list(0, 1)},
		// It may be that one has more, but not for sure.
		{[]api.Offer{offer(0, 1, 1, span(1, 50)), offer(1, 1, 0, span(1, 50))}, nil},
		{[]api.Offer{offer(0, 2, 1, span(3, 50)), offer(1, 1, 0, span(1, 1))}, list(0, 1)},
		// One offer alone, or twice, is none.
		{[]api.Offer{offer(0, 1, 1, exactly(50))}, nil},
		{[]api.Offer{offer(0, 1, 1, exactly(50)), offer(0, 1, 1, exactly(50)), offer(2, 1, 1, exactly(50)), offer(1, 1, 3, exactly(50))}, nil},
		// Of three to five goods, by any product; it may begin anywhere.
		{wheel(0, 3, ones, list(1, 2, 1)), list(0, 1, 2)},
		{wheel(2, 3, ones, list(1, 1, 2)), list(0, 1, 2)},
		{wheel(0, 4, ones, list(1, 1, 1, 2)), list(0, 1, 2, 3)},
		{wheel(3, 5, ones, list(2, 1, 1, 1, 1)), list(0, 1, 2, 3, 4)},
		{wheel(3, 5, ones, ones), nil},
		{wheel(0, 5, list(50, 50, 50, 50, 49), list(50, 50, 50, 50, 50)), list(0, 1, 2, 3, 4)},
		{wheel(0, 5, list(50, 50, 50, 50, 50), list(50, 50, 50, 50, 49)), nil},
		// A shorter one comes before those that begin with an offer before its own.
		{append(wheel(0, 3, ones, list(9, 9, 9)), offer(2, 1, 1, exactly(1))), list(1, 3)},
		{append(wheel(0, 3, ones, list(9, 9, 9)), offer(1, 9, 0, exactly(1))), list(0, 1, 2)},
		{append(wheel(0, 5, ones, list(9, 9, 9, 9, 9)), offer(3, 1, 1, exactly(1))), list(1, 2, 5)},
		// The first of several, also if others give more.
		{append(two(1, 2, 1, 1), two(1, 9, 1, 9)...), list(0, 1)},
		{append(two(1, 1, 1, 1), two(1, 1, 1, 2)...), list(0, 3)},
		{append(two(1, 1, 2, 1), two(1, 4, 2, 1)...), list(1, 2)},
		{[]api.Offer{offer(1, 1, 2, exactly(9)), offer(0, 1, 1, exactly(2)), offer(2, 9, 1, exactly(1)), offer(1, 1, 0, exactly(1))}, list(1, 3)},
		// Round again and again one would have more, but no good is given twice.
		{[]api.Offer{offer(0, 1, 1, exactly(1)), offer(1, 1, 2, exactly(1)), offer(2, 1, 1, exactly(1)), offer(1, 1, 0, exactly(1))}, nil},
		// The two offers on the way back to the good 1 end at another good than the one that was given first.
		{[]api.Offer{offer(0, 1, 1, exactly(9)), offer(1, 1, 2, exactly(1)), offer(2, 1, 1, exactly(1))}, nil},
	} {
		e := api.OK
		if x.round == nil {
			e = api.ErrNone
		}
		if l, f := market.Round(x.offers, 1, 5); !slices.Equal(l, x.round) || f != e {
			t.Error(i, l, f, "want", x.round, e)
		}
	}
}

// P6.5: an offer elsewhere, or on other days, is in no round.
func TestRoundOpen(t *testing.T) {
	offers := []api.Offer{
		from(7, 5, 20, offer(0, 1, 1, exactly(2))), from(7, 0, 10, offer(1, 1, 0, exactly(1))),
		from(8, 0, 99, offer(1, 1, 0, exactly(1))), from(7, 9, 30, offer(1, 1, 2, exactly(1))), from(7, 9, 30, offer(2, 1, 0, exactly(1))),
	}
	for day, want := range map[int][]int{4: nil, 5: list(0, 1), 9: list(0, 1), 10: list(0, 1), 11: list(0, 3, 4), 20: list(0, 3, 4), 21: nil} {
		e := api.OK
		if want == nil {
			e = api.ErrNone
		}
		wantRound(t, offers, 7, day, want, e)
		wantRound(t, offers, 8, day, nil, api.ErrNone)
		wantRound(t, offers, 9, day, nil, api.ErrNone)
	}
}

// goesRound tells whether a list of offers is a round, word by word of the chapter; again if a good may be given twice.
func goesRound(offers []api.Offer, round []int, place, day int, again bool) bool {
	var given [5]bool
	got, units := 1, 1
	for i, n := range round {
		o, before := offers[n], offers[round[(i+len(round)-1)%len(round)]]
		if !isOpen(o, fair(place, day)) || o.Give != before.Get || given[o.Give] && !again {
			return false
		}
		given[o.Give] = true
		got, units = got*o.For.Lo, units*o.Units
	}
	return got > units
}

// P6.5, P6.9: of all lists of offers the shortest and first one that is a round is returned; if none is, no offers go round, not even a longer way.
func TestRoundOfAll(t *testing.T) {
	r := rand.New(rand.NewPCG(6, 5))
	seen := map[int]int{}
	for range 2000 {
		offers := someOffers(r, r.IntN(6), 2+r.IntN(4), 2+r.IntN(6))
		for i := range offers {
			if r.IntN(9) > 0 {
				offers[i].Place, offers[i].From = 1, 0
			}
			offers[i].Units = 1 + r.IntN(3)
		}
		if n := len(offers); n > 2 && r.IntN(3) == 0 {
			// The offers go round in some order, so that long rounds are there, too.
			for i, first := range r.Perm(n) {
				offers[i].Give, offers[i].Get = first, (first+1)%n
			}
		}
		place, day := 1, r.IntN(10)
		var want []int
		for n := 1; n <= 5 && want == nil; n++ {
			for _, l := range lists(n, 0, len(offers)-1) {
				if goesRound(offers, l, place, day, false) {
					want = l
					break
				}
			}
		}
		seen[len(want)]++
		if want != nil {
			wantRound(t, offers, place, day, want, api.OK)
			continue
		}
		wantRound(t, offers, place, day, nil, api.ErrNone)
		for n := 2; n <= 6 && len(offers) < 5; n++ {
			for _, l := range lists(n, 0, len(offers)-1) {
				if goesRound(offers, l, place, day, true) {
					t.Fatal(offers, place, day, l)
				}
			}
		}
	}
	if seen[0] < 500 || seen[1] > 0 || seen[2] < 100 || seen[3] < 20 || seen[4] < 20 || seen[5] < 20 {
		t.Error(seen)
	}
}

// P6.9: by a round one has more, with enough of the good: so much that each offer can be taken for all there is.
func TestRoundGains(t *testing.T) {
	r := rand.New(rand.NewPCG(6, 9))
	seen := map[int]int{}
	for range 5000 {
		offers := someOffers(r, 10, 2+r.IntN(4), 1+r.IntN(15))
		f := fair(1, r.IntN(10))
		round, e := market.Round(offers, f.Place, f.Day)
		if e != api.OK {
			continue
		}
		enough := 1
		for _, i := range round {
			enough *= offers[i].Units
		}
		good, has := offers[round[0]].Give, enough
		var l []api.Barter
		for _, i := range round {
			l = append(l, barter(0, i, has/offers[i].Units))
			has = has / offers[i].Units * offers[i].For.Lo
		}
		held, losses, _, e := market.Run(offers, []api.Fair{f}, stocks(good, enough), l)
		if e != api.OK || held[good].Lo <= enough || len(losses) != 0 {
			t.Fatal(offers, f, round, enough, l, held, losses, e)
		}
		seen[len(round)]++
	}
	if seen[2] < 500 || seen[3] < 50 {
		t.Error(seen)
	}
}
