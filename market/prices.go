package market

import "azalai/api"

// validPrices tells whether prices are a number for each good at each of some fairs.
func validPrices(prices [][]int, fairs int) bool {
	return len(prices) == fairs && all(prices, func(goods []int) bool {
		return len(goods) == api.MaxGoods && all(goods, validPrice)
	})
}

func validPrice(price int) bool { return inRange(price, 0, api.MaxPrice) }

// provedBy tells whether by valid prices nothing is ever worth more after a barter, or at the end of a road, than before.
func (j journey) provedBy(prices [][]int) bool {
	proved := true
fairs:
	for fair, now := range prices {
		for _, i := range j.openAt(fair) {
			if o := j.offers[i]; product(o.For.Hi, now[o.Get]) > product(o.Units, now[o.Give]) {
				proved = false
				break fairs
			}
		}
		if fair == j.last() {
			break
		}
		for good := range api.MaxGoods {
			if product(prices[fair+1][good], j.fairs[fair].Keeps[good].Hi) > product(api.Whole, now[good]) {
				proved = false
				break fairs
			}
		}
	}
	return proved
}

// worth returns what stocks are worth by the prices of each good.
func worth(stocks, prices []int) int {
	total := 0
	for good := range api.MaxGoods {
		total += product(stocks[good], prices[good])
	}
	return total
}
