package market_test

import (
	"math/rand/v2"
	"slices"

	"azalai/api"
)

// upTo returns a span of numbers from one to another one.
func upTo(r *rand.Rand, least, most int) api.Span {
	a, b := least+r.IntN(most-least+1), least+r.IntN(most-least+1)
	if r.IntN(3) == 0 {
		b = a
	}
	return span(min(a, b), max(a, b))
}

// someOffer returns an offer of some goods with few units at the place 1 or 2, which is mostly open.
func someOffer(r *rand.Rand, goods, most int) api.Offer {
	give := r.IntN(goods)
	days := span(0, 9)
	if r.IntN(4) == 0 {
		days = upTo(r, 0, 9)
	}
	return from(1+r.IntN(2), days.Lo, days.Hi, offer(give, 1+r.IntN(most), (give+1+r.IntN(goods-1))%goods, upTo(r, 1, most)))
}

func someOffers(r *rand.Rand, n, goods, most int) []api.Offer {
	var l []api.Offer
	for range n {
		l = append(l, someOffer(r, goods, most))
	}
	return l
}

// someKeeps are what is kept on a road, of each good all, most or any part.
func someKeeps(r *rand.Rand) []api.Span {
	var l []api.Span
	for range 5 {
		l = append(l, []api.Span{exactly(1000), upTo(r, 800, 1000), upTo(r, 0, 1000)}[r.IntN(3)])
	}
	return l
}

// someTrip returns a trip to the places 1 and 2, on the days 0 to 9.
func someTrip(r *rand.Rand, fairs int) []api.Fair {
	var days []int
	for range fairs {
		days = append(days, r.IntN(10))
	}
	slices.Sort(days)
	var l []api.Fair
	for _, day := range days {
		l = append(l, keeping(fair(1+r.IntN(2), day), someKeeps(r)...))
	}
	return l
}

func someStocks(r *rand.Rand, most int) []int {
	var l []int
	for range 5 {
		l = append(l, r.IntN(most+1)*r.IntN(2))
	}
	return l
}

// isOpen tells whether an offer is open at a fair, word by word of the chapter.
func isOpen(o api.Offer, f api.Fair) bool {
	return o.Place == f.Place && o.From <= f.Day && f.Day <= o.To
}

// lists are all lists of so many numbers from one to another one, each list before those whose first number that differs is greater.
func lists(n, least, most int) [][]int {
	if n == 0 {
		return [][]int{nil}
	}
	var l [][]int
	for first := least; first <= most; first++ {
		for _, rest := range lists(n-1, least, most) {
			l = append(l, append([]int{first}, rest...))
		}
	}
	return l
}

// choice takes one of the numbers of a span.
type choice func(api.Span) int

func least(s api.Span) int { return s.Lo }

func greatest(s api.Span) int { return s.Hi }

func anyOf(r *rand.Rand) choice {
	return func(s api.Span) int { return s.Lo + r.IntN(s.Hi-s.Lo+1) }
}

// caravan is what there really is of each good on a trip, at which fair; what was given and got, and lost on each road.
type caravan struct {
	offers          []api.Offer
	trip            []api.Fair
	fair            int
	has, given, got [5]int
	lost            [5][5]int // by the road and the good
}

func caravanOf(offers []api.Offer, trip []api.Fair, stocks []int) *caravan {
	return &caravan{offers: offers, trip: trip, has: [5]int(stocks)}
}

// take takes an offer so many times, each time for another number of units.
func (c *caravan) take(i, times int, by choice) {
	o := c.offers[i]
	for range times {
		c.has[o.Give] -= o.Units
		c.given[o.Give] += o.Units
		got := by(o.For)
		c.has[o.Get] += got
		c.got[o.Get] += got
	}
}

// move goes the next road.
func (c *caravan) move(by func(road int, keeps api.Span) int) {
	for good := range 5 {
		stays := c.has[good] * by(c.fair, c.trip[c.fair].Keeps[good]) / 1000
		c.lost[c.fair][good] = c.has[good] - stays
		c.has[good] = stays
	}
	c.fair++
}

// run does barters on a trip, and goes to its end.
func (c *caravan) run(l []api.Barter, units choice, keeps func(road int, keeps api.Span) int) {
	for _, b := range l {
		for c.fair < b.Fair {
			c.move(keeps)
		}
		c.take(b.Offer, b.Times, units)
	}
	for c.fair+1 < len(c.trip) {
		c.move(keeps)
	}
}

// onRoads makes the same choice on all roads.
func onRoads(by choice) func(int, api.Span) int {
	return func(_ int, keeps api.Span) int { return by(keeps) }
}
