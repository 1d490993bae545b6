package season

import (
	"slices"

	"azalai/api"
	"azalai/way"
)

// choice is a plan with what it is worth.
type choice struct {
	plan  api.Plan
	worth int
}

func choiceOf(s api.Season, p api.Plan) choice { return choice{p, worthOf(s, p)} }

// rank returns by what choices are compared before their legs: the least numbers are the best ones.
func (c choice) rank() [4]int {
	return [4]int{-c.worth, c.plan.Animals, c.plan.Slabs, len(c.plan.Legs)}
}

// goesBefore tells whether a choice is better than another one.
func (c choice) goesBefore(d choice) bool {
	a, b := c.rank(), d.rank()
	if a == b {
		return slices.Compare(c.plan.Legs, d.plan.Legs) < 0
	}
	return slices.Compare(a[:], b[:]) < 0
}

// allWays returns all ways on which a plan may be gone.
func allWays(s api.Season) ([][]int, api.Errno) {
	var all [][]int
	for goal := range s.Land.Wells {
		ways, e := way.Ways(s.Land, s.From, goal, s.Day, s.Until, s.Pace)
		if e != api.OK {
			return nil, e
		}
		all = append(all, ways...)
	}
	return all, api.OK
}

// bestOf returns the best choice of all ways. An animal more changes the worth by the same each time: so it is best to sell all, or to go with as many as hold.
func bestOf(s api.Season, ways [][]int) choice {
	best := choiceOf(s, api.Plan{})
nextWay:
	for _, legs := range ways {
		for slabs := range api.MaxSlabs + 1 {
			p := api.Plan{Legs: legs, Animals: s.Herd, Slabs: slabs}
			// It takes long to find out how many hold: not to be asked if even all of them would not be better.
			if !choiceOf(s, p).goesBefore(best) {
				continue
			}
			p.Animals = most(s, legs, slabs)
			if p.Animals == 0 {
				// With more slabs none holds either.
				continue nextWay
			}
			if c := choiceOf(s, p); c.goesBefore(best) {
				best = c
			}
		}
	}
	return best
}

// most returns with how many animals a sure way holds, at the most, in all scenes.
func most(s api.Season, legs []int, slabs int) int {
	stops, _ := stopsOf(s, legs)
	animals := s.Herd
	for _, scene := range s.Scenes {
		if animals == 0 {
			break
		}
		animals = min(animals, inScene(s, scene, stops, slabs).most())
	}
	return animals
}

// worthOf returns what a plan earns at the least: in the scene in which a slab brings least at the goal.
func worthOf(s api.Season, p api.Plan) int {
	goal, least := goalOf(s, p.Legs), api.MaxMoney
	for _, scene := range s.Scenes {
		least = min(least, scene.Prices[goal])
	}
	return p.Animals*p.Slabs*(least-s.Cost) + (s.Herd-p.Animals)*s.Sale
}

// boundOf returns the least, of all scenes, of what the herd would earn if each animal did the best that one can do.
func boundOf(s api.Season) int {
	slabs := min(api.MaxSlabs, s.Breed.Strong.Lo/s.Slab)
	reach, _ := way.Reach(s.Land, s.From, s.Day, s.Pace)
	var bounds []int
	for _, scene := range s.Scenes {
		// At the least it is sold, for 0 or more.
		animal := s.Sale
		for well, price := range scene.Prices {
			if reach[well].Hi <= s.Until {
				animal = max(animal, slabs*(price-s.Cost))
			}
		}
		bounds = append(bounds, s.Herd*animal)
	}
	return slices.Min(bounds)
}
