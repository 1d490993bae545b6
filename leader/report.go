package leader

import (
	"azalai/api"
	"azalai/brand"
	"azalai/camel"
	"azalai/guide"
	"azalai/load"
	"azalai/share"
	"azalai/way"
)

// report returns what is known of a valid company.
func report(c api.Company) api.Report {
	r := api.Report{Loads: loadsOf(c), Ready: readyOf(c)}
	r.East, r.North, _ = guide.Bounds(c.Area)
	for _, animal := range c.Camels {
		fit, _ := camel.Fitness(c.Breed, animal)
		r.Fit = append(r.Fit, fit)
	}
	for well := range c.Land.Wells {
		has, _, _ := way.Water(c.Land, well, c.Draws, c.Day+1)
		r.Wells = append(r.Wells, has)
	}
	r.Counts, _, _, _ = brand.Tally(c.First, c.Rows)
	r.Shares, _ = share.Settle(c.Pact, c.Letters)
	return r
}

// loadsOf returns all of the load of each animal.
func loadsOf(c api.Company) []api.Span {
	var loads []api.Span
	for _, tie := range c.Ties {
		_, _, all, _ := load.Sides(c.Packs, tie)
		loads = append(loads, all)
	}
	return loads
}

// readyOf returns of each animal whether it can go with its load.
func readyOf(c api.Company) []uint8 {
	var all []uint8
	for i, animal := range c.Camels {
		ready, _ := load.Ready(c.Breed, animal, c.Packs, c.Ties[i], c.Bound)
		all = append(all, ready)
	}
	return all
}
