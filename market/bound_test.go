package market_test

import (
	"math/rand/v2"
	"slices"
	"testing"

	"azalai/api"
	"azalai/market"
)

// P6.4: the ranges of the numbers, and of the lists.
func TestBoundArguments(t *testing.T) {
	two := []api.Fair{fair(1, 1), fair(1, 1)}
	prices := func(change func(l [][]int)) [][]int {
		l := [][]int{list(1000000, 1000000, 1000000, 1000000, 1000000), list(1, 1, 1, 1, 1)}
		change(l)
		return l
	}
	for n, valid := range around(0, 4) {
		if valid {
			wantBound(t, nil, two, stocks(3, 1), n, prices(func([][]int) {}), 1000000, api.OK)
		} else {
			wantBound(t, nil, two, stocks(3, 1), n, prices(func([][]int) {}), 0, api.ErrArg)
		}
	}
	want := func(l [][]int, most int, e api.Errno) {
		t.Helper()
		wantBound(t, nil, two, stocks(3, 1), 3, l, most, e)
	}
	for good := range 5 {
		for n, valid := range around(0, 1000000) {
			first, last := prices(func(l [][]int) { l[0][good] = n }), prices(func(l [][]int) { l[1][good] = n })
			switch {
			case !valid:
				want(first, 0, api.ErrPrices)
				want(last, 0, api.ErrPrices)
			case good == 3 && n == 0:
				// It would be worth more at the second fair, or is worth nothing there.
				want(first, 0, api.ErrPrices)
				want(last, 0, api.ErrPrices)
			case good == 3:
				want(first, 1000000, api.OK)
				want(last, 1, api.OK)
			case n == 0:
				want(first, 0, api.ErrPrices)
				want(last, 1000000, api.OK)
			default:
				want(first, 1000000, api.OK)
				want(last, 1000000, api.OK)
			}
		}
	}
	for i, change := range []func(l [][]int){
		func(l [][]int) { l[0] = nil },
		func(l [][]int) { l[1] = nil },
		func(l [][]int) { l[0] = l[0][:4] },
		func(l [][]int) { l[1] = l[1][:4] },
		func(l [][]int) { l[0] = append(l[0], 0) },
		func(l [][]int) { l[1] = append(l[1], 0) },
	} {
		if _, e := market.Bound(nil, two, stocks(3, 1), 3, prices(change)); e != api.ErrPrices {
			t.Error(i, e)
		}
	}
	l := prices(func([][]int) {})
	for i, x := range [][][]int{nil, {}, l[:1], l[1:], {l[0], l[0], l[1]}, {l[0], l[1], l[1]}} {
		if _, e := market.Bound(nil, two, stocks(3, 1), 3, x); e != api.ErrPrices {
			t.Error(i, e)
		}
	}
}

// P6.4: by the greatest number for which an offer may be taken its good is worth no more than what is given, at each fair.
func TestBoundOffers(t *testing.T) {
	offers := []api.Offer{from(2, 5, 7, offer(0, 10, 1, span(3, 4))), from(3, 0, 9, offer(1, 7, 2, span(1, 7)))}
	for i, x := range []struct {
		place, day int
		prices     []int
		ok         bool
	}{
		{2, 5, list(4, 10, 0, 0, 0), true},
		{2, 5, list(4, 11, 0, 0, 0), false},
		{2, 5, list(3, 10, 0, 0, 0), false},
		{2, 5, list(400000, 1000000, 0, 0, 0), true},
		{2, 5, list(399999, 1000000, 0, 0, 0), false},
		{2, 5, list(0, 1, 0, 0, 0), false},
		{2, 4, list(0, 1, 0, 0, 0), true},
		{2, 8, list(0, 1, 0, 0, 0), true},
		{4, 5, list(0, 1, 1000000, 0, 0), true},
		// Of the other offer as many are got as are given.
		{3, 0, list(0, 1, 1, 0, 0), true},
		{3, 0, list(0, 6, 7, 0, 0), false},
		{2, 5, list(4, 10, 1000, 0, 0), true},
	} {
		// The good is worth as much at all fairs: none is lost on the roads.
		for before := range 3 {
			for after := range 3 {
				trip := slices.Concat(slices.Repeat([]api.Fair{fair(9, 0)}, before), []api.Fair{fair(x.place, x.day)}, slices.Repeat([]api.Fair{fair(9, 9)}, after))
				if _, e := market.Bound(offers, trip, stocks(0, 0), 1, slices.Repeat([][]int{x.prices}, len(trip))); e != due(x.ok, api.ErrPrices) {
					t.Error(i, before, after, e)
				}
			}
		}
	}
	// One of two offers that are open is not worth more, the other one is.
	both := []api.Offer{from(2, 5, 7, offer(0, 10, 1, span(3, 4))), from(2, 5, 7, offer(1, 1, 2, span(1, 2)))}
	for _, l := range [][]api.Offer{both, {both[1], both[0]}} {
		wantBound(t, l, []api.Fair{fair(2, 5)}, stocks(0, 100), 1, [][]int{{4, 10, 5, 0, 0}}, 40, api.OK)
		wantBound(t, l, []api.Fair{fair(2, 5)}, stocks(0, 100), 1, [][]int{{4, 10, 6, 0, 0}}, 0, api.ErrPrices)
		wantBound(t, l, []api.Fair{fair(2, 5)}, stocks(0, 100), 1, [][]int{{3, 10, 5, 0, 0}}, 0, api.ErrPrices)
	}
}

// P6.4: by the greatest part that may be kept each good is worth no more after a road than before.
func TestBoundRoads(t *testing.T) {
	for good := range 5 {
		keeps := all(exactly(0))
		keeps[good] = span(0, 300)
		trip := []api.Fair{keeping(fair(1, 1), keeps...), keeping(fair(2, 2), keeps...), keeping(fair(3, 3), all(exactly(1000))...)}
		for i, x := range []struct {
			first, second, third int
			ok                   bool
		}{
			{9, 30, 100, true}, {9, 30, 101, false}, {9, 29, 100, false}, {8, 30, 100, false}, {9, 31, 100, false}, {10, 33, 110, true}, {90000, 300000, 1000000, true}, {89999, 300000, 1000000, false}, {0, 0, 0, true}, {1, 0, 0, true}, {0, 0, 1, false}, {0, 1, 0, false},
		} {
			want := (good + 1) % 5
			prices := [][]int{stocks(good, x.first), stocks(good, x.second), stocks(good, x.third)}
			prices[2][want] = 7
			if n, e := market.Bound(nil, trip, stocks(good, 7), want, prices); e != due(x.ok, api.ErrPrices) || e == api.OK && n != x.first {
				t.Error(good, i, n, e)
			}
		}
	}
}

// P6.4: the bound is what the stocks are worth at first, by the good's price at last, rounded down.
func TestBoundRounded(t *testing.T) {
	one, two := []api.Fair{fair(1, 1)}, []api.Fair{fair(1, 1), fair(1, 1)}
	for _, x := range []struct {
		stocks []int
		want   int
		prices []int
		most   int
	}{
		{list(0, 0, 0, 0, 0), 0, list(1, 0, 0, 0, 0), 0},
		{list(1, 2, 3, 4, 5), 0, list(7, 0, 0, 0, 0), 1},
		{list(1, 2, 3, 4, 5), 4, list(10000, 1000, 100, 10, 1), 12345},
		{list(1, 2, 3, 4, 5), 0, list(10000, 1000, 100, 10, 1), 1},
		{list(5, 4, 3, 2, 1), 3, list(1, 1, 1, 4, 1), 5},
		{list(1, 1, 1, 1, 1), 2, list(1, 1, 6, 1, 1), 1},
		{list(1, 1, 1, 0, 1), 2, list(1, 1, 6, 1, 1), 1},
		{list(1, 1, 0, 1, 1), 2, list(1, 1, 5, 1, 1), 0},
		{slices.Repeat(list(1000000), 5), 2, slices.Repeat(list(1000000), 5), 5000000},
		{slices.Repeat(list(1000000), 5), 2, list(1000000, 1000000, 1, 1000000, 1000000), 4000001000000},
	} {
		wantBound(t, nil, one, x.stocks, x.want, [][]int{x.prices}, x.most, api.OK)
		wantBound(t, nil, two, x.stocks, x.want, [][]int{x.prices, x.prices}, x.most, api.OK)
	}
	// At the first fair the good is worth nine times as much as at the last one.
	wantBound(t, nil, two, list(2, 0, 0, 1, 0), 0, [][]int{{18, 0, 0, 3, 0}, {2, 0, 0, 0, 0}}, 19, api.OK)
}

// proof tells whether prices prove a bound, word by word of the chapter.
func proof(offers []api.Offer, trip []api.Fair, want int, prices [][]int) bool {
	for i, f := range trip {
		for _, o := range offers {
			if isOpen(o, f) && o.For.Hi*prices[i][o.Get] > o.Units*prices[i][o.Give] {
				return false
			}
		}
		for good, keeps := range f.Keeps {
			if i+1 < len(trip) && prices[i+1][good]*keeps.Hi > 1000*prices[i][good] {
				return false
			}
		}
	}
	return prices[len(trip)-1][want] > 0
}

// somePrices returns the least prices by which a good is worth so much at last; nil if offers go round, so that there are none.
func somePrices(offers []api.Offer, trip []api.Fair, want, price int) [][]int {
	prices := make([][]int, len(trip))
	now := stocks(want, price)
	for i := len(trip) - 1; i >= 0; i-- {
		if i+1 < len(trip) {
			for good, keeps := range trip[i].Keeps {
				now[good] = (now[good]*keeps.Hi + 999) / 1000
			}
		}
		for again := true; again; {
			again = false
			for _, o := range offers {
				least := (o.For.Hi*now[o.Get] + o.Units - 1) / o.Units
				if isOpen(o, trip[i]) && least > now[o.Give] {
					now[o.Give], again = least, true
				}
			}
			if slices.Max(now) > 1000000 {
				return nil
			}
		}
		prices[i] = slices.Clone(now)
	}
	return prices
}

// P6.4: prices are a proof or none, as the chapter says word by word.
func TestBoundIsProved(t *testing.T) {
	r := rand.New(rand.NewPCG(6, 4))
	seen := map[bool]int{}
	for range 20000 {
		offers, trip := someOffers(r, r.IntN(6), 2+r.IntN(4), 1+r.IntN(9)), someTrip(r, 1+r.IntN(5))
		want := r.IntN(5)
		prices := somePrices(offers, trip, want, 1+r.IntN(500))
		if prices == nil {
			continue
		}
		for range r.IntN(3) {
			price := &prices[r.IntN(len(prices))][r.IntN(5)]
			*price = max(0, *price+r.IntN(5)-2)
		}
		from := someStocks(r, 1000000)
		is := proof(offers, trip, want, prices)
		seen[is]++
		if !is {
			wantBound(t, offers, trip, from, want, prices, 0, api.ErrPrices)
			continue
		}
		worth := 0
		for good, n := range from {
			worth += n * prices[0][good]
		}
		wantBound(t, offers, trip, from, want, prices, worth/prices[len(trip)-1][want], api.OK)
	}
	if seen[true] < 2000 || seen[false] < 2000 {
		t.Error(seen)
	}
}

// trades takes open offers at random as long as there is enough to give, from fair to fair.
func (c *caravan) trades(r *rand.Rand, units choice, keeps choice) {
	for i := range c.trip {
		for range r.IntN(8) {
			for j, o := range c.offers {
				if isOpen(o, c.trip[i]) && c.has[o.Give] >= o.Units && r.IntN(2) == 0 {
					c.take(j, 1+r.IntN(c.has[o.Give]/o.Units), units)
				}
			}
		}
		if i+1 < len(c.trip) {
			c.move(onRoads(keeps))
		}
	}
}

// P6.7, N6: whatever anybody does, within what is known, he has no more than the bound; nor does the best chain gain more.
func TestBoundHolds(t *testing.T) {
	r := rand.New(rand.NewPCG(6, 74))
	bounds, reached, chains := 0, 0, 0
	for range 4000 {
		offers, trip := someOffers(r, 1+r.IntN(6), 2+r.IntN(3), 1+r.IntN(6)), someTrip(r, 1+r.IntN(4))
		want, from := r.IntN(3), someStocks(r, 60)
		prices := somePrices(offers, trip, want, 60)
		if prices == nil {
			continue
		}
		most, e := market.Bound(offers, trip, from, want, prices)
		if e != api.OK {
			t.Fatal(offers, trip, from, want, prices, e)
		}
		bounds++
		for try := range 8 {
			c := caravanOf(offers, trip, from)
			c.trades(r, []choice{greatest, anyOf(r)}[try%2], []choice{greatest, anyOf(r)}[try/2%2])
			if c.has[want] > most {
				t.Fatal(offers, trip, from, want, prices, most, c)
			}
			if c.has[want] == most && most > from[want] {
				reached++
			}
		}
		for good, units := range from {
			_, got, e := market.Best(offers, trip, good, units, want)
			if got > most {
				t.Fatal(offers, trip, from, want, prices, most, got)
			}
			if e == api.OK && got > 0 {
				chains++
			}
		}
	}
	if bounds < 1000 || reached < 50 || chains < 500 {
		t.Error(bounds, reached, chains)
	}
}
