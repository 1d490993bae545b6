package market_test

import (
	"math/rand/v2"
	"slices"
	"testing"

	"azalai/api"
	"azalai/market"
)

// journey is all that Run is called with.
type journey struct {
	offers []api.Offer
	trip   []api.Fair
	stocks []int
	l      []api.Barter
}

func (j journey) run() ([]api.Span, []api.Loss, int, api.Errno) {
	return market.Run(j.offers, j.trip, j.stocks, j.l)
}

// truth is what really comes of it.
func (j journey) truth(units choice, keeps func(int, api.Span) int) *caravan {
	c := caravanOf(j.offers, j.trip, j.stocks)
	c.run(j.l, units, keeps)
	return c
}

// someJourney returns barters that can be done for sure.
func someJourney(r *rand.Rand) journey {
	j := journey{offers: someOffers(r, 2+r.IntN(8), 2+r.IntN(3), 1+r.IntN(8)), trip: someTrip(r, 1+r.IntN(5)), stocks: someStocks(r, 200)}
	for i, f := range j.trip {
		for range r.IntN(5) {
			for n, o := range j.offers {
				if !isOpen(o, f) || r.IntN(2) == 0 {
					continue
				}
				longer := j
				longer.l = append(slices.Clip(j.l), barter(i, n, 1+r.IntN(20)))
				if _, _, _, e := longer.run(); e == api.OK {
					j = longer
				}
			}
		}
	}
	return j
}

// named returns what is told to be lost of each good on each road; it checks that each loss is told once, in order, and that none is nothing.
func named(t *testing.T, losses []api.Loss) [5][5]api.Span {
	t.Helper()
	var l [5][5]api.Span
	last := -1
	for _, x := range losses {
		if at := x.Road*5 + x.Good; at <= last || x.Units.Hi <= 0 {
			t.Fatal("losses", losses)
		} else {
			last = at
		}
		l[x.Road][x.Good] = x.Units
	}
	return l
}

func inside(n int, s api.Span) bool { return s.Lo <= n && n <= s.Hi }

// P6.6, N6: what there really is of each good, and what was lost on each road, is in what is told; and goods are conserved.
func TestConserved(t *testing.T) {
	r := rand.New(rand.NewPCG(6, 6))
	done, lost := 0, 0
	for range 3000 {
		j := someJourney(r)
		held, losses, at, e := j.run()
		if e != api.OK || at != 0 || len(held) != 5 {
			t.Fatal(j, held, losses, at, e)
		}
		told := named(t, losses)
		for range 5 {
			c := j.truth(anyOf(r), onRoads(anyOf(r)))
			for good := range 5 {
				gone := c.given[good]
				for road := range 5 {
					gone += c.lost[road][good]
					if !inside(c.lost[road][good], told[road][good]) {
						t.Fatal("lost", j, losses, c)
					}
				}
				if !inside(c.has[good], held[good]) || j.stocks[good]+c.got[good] != gone+c.has[good] {
					t.Fatal("held", j, held, c)
				}
			}
		}
		done += len(j.l)
		lost += len(losses)
	}
	if done < 5000 || lost < 5000 {
		t.Error(done, lost)
	}
}

// but makes a choice on all roads but one, and another one there. Less may be kept then than later barters need; what is lost on the road itself is right all the same.
func but(road int, of, there choice) func(int, api.Span) int {
	return func(on int, keeps api.Span) int {
		if on == road {
			return there(keeps)
		}
		return of(keeps)
	}
}

// P6.2, P6.6: what is told is no wider than what may be: each end of it is there in some truth.
func TestToldAreEnds(t *testing.T) {
	r := rand.New(rand.NewPCG(6, 62))
	for range 3000 {
		j := someJourney(r)
		held, losses, _, e := j.run()
		few, many := j.truth(least, onRoads(least)), j.truth(greatest, onRoads(greatest))
		for good, s := range held {
			if s != span(few.has[good], many.has[good]) {
				t.Fatal(j, held, e, few, many)
			}
		}
		told := named(t, losses)
		for road := range len(j.trip) - 1 {
			few, many := j.truth(least, but(road, least, greatest)), j.truth(greatest, but(road, greatest, least))
			for good := range 5 {
				if told[road][good] != span(few.lost[road][good], many.lost[road][good]) {
					t.Fatal(j, losses, road, few, many)
				}
			}
		}
	}
}

// P6.6: a barter for which there cannot be enough is short, and one for which there is enough in all truths is not.
func TestShort(t *testing.T) {
	r := rand.New(rand.NewPCG(6, 66))
	seen := map[api.Errno]int{}
	for range 5000 {
		j := someJourney(r)
		last := len(j.trip) - 1
		i := r.IntN(len(j.offers))
		o := j.offers[i]
		if !isOpen(o, j.trip[last]) {
			continue
		}
		few, many := j.truth(least, onRoads(least)).has[o.Give], j.truth(greatest, onRoads(greatest)).has[o.Give]
		for _, n := range []int{1, few / o.Units, few/o.Units + 1, many / o.Units, many/o.Units + 1} {
			if n == 0 {
				continue
			}
			longer := j
			longer.l = append(slices.Clip(j.l), barter(last, i, n))
			want := due(n*o.Units <= few, api.ErrShort)
			if len(longer.l) > 60 {
				want = api.ErrMany
			}
			_, _, at, e := longer.run()
			if e != want || e == api.ErrShort && at != len(j.l) {
				t.Fatal(longer, at, e, "want", want)
			}
			seen[e]++
		}
	}
	if seen[api.OK] < 1000 || seen[api.ErrShort] < 1000 {
		t.Error(seen)
	}
}

// within tells whether a span lies in another one.
func within(s, in api.Span) bool { return in.Lo <= s.Lo && s.Hi <= in.Hi }

// narrower returns a span that lies in another one.
func narrower(r *rand.Rand, s api.Span) api.Span { return upTo(r, s.Lo, s.Hi) }

// knownBetter returns a journey of whose numbers more is known.
func knownBetter(r *rand.Rand, j journey) journey {
	j.offers, j.trip = slices.Clone(j.offers), slices.Clone(j.trip)
	for i, o := range j.offers {
		j.offers[i].For = narrower(r, o.For)
	}
	for i, f := range j.trip {
		j.trip[i].Keeps = nil
		for _, s := range f.Keeps {
			j.trip[i].Keeps = append(j.trip[i].Keeps, narrower(r, s))
		}
	}
	return j
}

// P6.8: with what is known better nothing is told wider, the best chain gains no less, and what was a proof is one.
func TestKnownBetter(t *testing.T) {
	r := rand.New(rand.NewPCG(6, 88))
	narrow, chains, proofs := 0, 0, 0
	for range 4000 {
		j := someJourney(r)
		k := knownBetter(r, j)
		held, losses, _, e := j.run()
		held2, losses2, _, f := k.run()
		if e != api.OK || f != api.OK {
			t.Fatal(j, k, e, f)
		}
		told, told2 := named(t, losses), named(t, losses2)
		for good := range 5 {
			for road := range 5 {
				if !within(told2[road][good], told[road][good]) {
					t.Fatal(j, losses, k, losses2)
				}
			}
			if !within(held2[good], held[good]) {
				t.Fatal(j, held, k, held2)
			}
			if held2[good] != held[good] {
				narrow++
			}
		}
		good, units, want := r.IntN(3), r.IntN(200), r.IntN(3)
		_, got, e := market.Best(j.offers, j.trip, good, units, want)
		_, got2, f := market.Best(k.offers, k.trip, good, units, want)
		if e != f || got2 < got {
			t.Fatal(j, k, good, units, want, got, e, got2, f)
		}
		if got2 > got {
			chains++
		}
		if prices := somePrices(j.offers, j.trip, want, 50); prices != nil {
			n, e := market.Bound(j.offers, j.trip, j.stocks, want, prices)
			wantBound(t, k.offers, k.trip, k.stocks, want, prices, n, e)
			proofs++
		}
	}
	if narrow < 2000 || chains < 200 || proofs < 200 {
		t.Error(narrow, chains, proofs)
	}
}

// P6.7: what Run tells of a good is no more than a bound of it.
func TestRunIsBounded(t *testing.T) {
	r := rand.New(rand.NewPCG(6, 77))
	bounds, equal := 0, 0
	for range 4000 {
		j := someJourney(r)
		want := r.IntN(3)
		prices := somePrices(j.offers, j.trip, want, 50)
		if prices == nil {
			continue
		}
		most, e := market.Bound(j.offers, j.trip, j.stocks, want, prices)
		held, _, _, f := j.run()
		if e != api.OK || f != api.OK || held[want].Hi > most {
			t.Fatal(j, want, prices, most, e, held, f)
		}
		bounds++
		if held[want].Hi == most && len(j.l) > 0 {
			equal++
		}
	}
	if bounds < 500 || equal < 10 {
		t.Error(bounds, equal)
	}
}
