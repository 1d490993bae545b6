package way

import "azalai/api"

// How something is known.
const (
	atBest = iota
	forSure
	kinds
)

// known is what is known of a day, or of how many days something takes: at best, and for sure.
type known [kinds]int

func exactly(day int) known { return known{atBest: day, forSure: day} }

func (k known) span() api.Span { return api.Span{Lo: k[atBest], Hi: k[forSure]} }

// first returns the first of some days, Never if none of them is one until MaxDay.
func first(days ...int) int {
	least := api.Never
	for _, day := range days {
		least = min(least, day)
	}
	return least
}

// divided returns a number from 0 on divided by another one, rounded up.
func divided(n, by int) int { return (n + by - 1) / by }
