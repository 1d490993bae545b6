package market

import "azalai/api"

func validOffers(offers []api.Offer) bool {
	return len(offers) <= api.MaxOffers && all(offers, validOffer)
}

func validOffer(o api.Offer) bool {
	return validPlace(o.Place) && validGood(o.Give) && validGood(o.Get) && o.Give != o.Get &&
		inRange(o.Units, 1, api.MaxRatio) && validSpan(o.For, 1, api.MaxRatio) &&
		validSpan(api.Span{Lo: o.From, Hi: o.To}, 0, api.MaxDay)
}

func validPlace(place int) bool { return inRange(place, 0, api.MaxId) }

func validDay(day int) bool { return inRange(day, 0, api.MaxDay) }

func validGood(good int) bool { return inRange(good, 0, api.MaxGoods-1) }

func validUnits(units int) bool { return inRange(units, 0, api.MaxUnits) }

func validStocks(stocks []int) bool {
	return len(stocks) == api.MaxGoods && all(stocks, validUnits)
}

// market is offers at work, with the indices of those at each place in ascending order.
type market struct {
	offers []api.Offer
	places map[int][]int
}

func marketOf(offers []api.Offer) market {
	places := map[int][]int{}
	for i, o := range offers {
		places[o.Place] = append(places[o.Place], i)
	}
	return market{offers, places}
}

// open returns the indices of the offers that are open at a place on a day, in ascending order.
func (m market) open(place, day int) []int {
	var open []int
	for _, i := range m.places[place] {
		if o := m.offers[i]; inRange(day, o.From, o.To) {
			open = append(open, i)
		}
	}
	return open
}
