package market

import "azalai/api"

func validTrip(trip []api.Fair) bool {
	if !inRange(len(trip), 1, api.MaxFairs) || !all(trip, validFair) {
		return false
	}
	for i, f := range trip[1:] {
		if f.Day < trip[i].Day {
			return false
		}
	}
	return true
}

func validFair(f api.Fair) bool {
	return validPlace(f.Place) && validDay(f.Day) && len(f.Keeps) == api.MaxGoods && all(f.Keeps, validKeep)
}

func validKeep(s api.Span) bool { return validSpan(s, 0, api.Whole) }

// journey is a trip at work, with the market of all its places.
type journey struct {
	market
	fairs []api.Fair
}

func journeyOf(offers []api.Offer, trip []api.Fair) journey {
	return journey{marketOf(offers), trip}
}

// last returns the index of the last fair, after which there is no road.
func (j journey) last() int { return len(j.fairs) - 1 }

// openAt returns the indices of the offers that are open at a fair, in ascending order.
func (j journey) openAt(fair int) []int {
	return j.open(j.fairs[fair].Place, j.fairs[fair].Day)
}

// left returns how many units of a good are left on a road, of which some thousandths are kept. Nothing overflows: MaxHeld times Whole is below 2^63.
func left(units, keeps int) int { return product(units, keeps) / api.Whole }
