package season_test

import (
	"cmp"
	"math/rand/v2"
	"slices"

	"azalai/api"
	"azalai/camel"
	"azalai/way"
)

// The random seasons take place on few days, from the day 0 on, or until MaxDay.

const window = 50

// upTo returns a span of numbers from one to another one.
func upTo(r *rand.Rand, least, most int) api.Span {
	a, b := least+r.IntN(most-least+1), least+r.IntN(most-least+1)
	if r.IntN(2) == 0 {
		b = a
	}
	return span(min(a, b), max(a, b))
}

// often returns a number that is often 0.
func often(r *rand.Rand, most int) int { return r.IntN(2) * r.IntN(most+1) }

func someLand(r *rand.Rand, from int) api.Land {
	var l api.Land
	for range 3 + r.IntN(3) {
		room := 200 + r.IntN(3000)
		l.Wells = append(l.Wells, api.Well{Yield: upTo(r, 0, 100), Room: room, Has: upTo(r, 0, room)})
	}
	for range 3 + r.IntN(5) {
		a := r.IntN(len(l.Wells))
		leg := path(a, (a+1+r.IntN(len(l.Wells)-1))%len(l.Wells), upTo(r, 1, 7))
		leg.Gates[0] = api.Gate{Opens: exactly(from), Shuts: exactly(from + window)}
		if r.IntN(3) == 0 {
			leg.Gates[0] = api.Gate{Opens: upTo(r, from, from+9), Shuts: upTo(r, from+20, from+window)}
		}
		l.Legs = append(l.Legs, leg)
	}
	return l
}

func someScene(r *rand.Rand, wells int) api.Scene {
	s := api.Scene{Heat: upTo(r, 10, 60), Grass: span(0, often(r, 50))}
	for range wells {
		s.Yields, s.Prices = append(s.Yields, upTo(r, 0, 60)), append(s.Prices, r.IntN(30))
	}
	return s
}

// someSeason has few animals, with numbers by which plans hold about as often as they do not.
func someSeason(r *rand.Rand) api.Season {
	from := r.IntN(2) * (100000 - window)
	s := api.Season{
		Land: someLand(r, from),
		Pace: upTo(r, 1, 3),
		Breed: api.Breed{
			Full: 800 + r.IntN(400), Fed: 800 + r.IntN(400), Rest: upTo(r, 5, 90), Heat: span(0, r.IntN(5)), Toil: span(0, often(r, 5)),
			Burn: span(0, often(r, 7)), Rub: span(0, often(r, 9000)), Milk: span(0, often(r, 20)), Strong: upTo(r, 500, 2000),
		},
		Herd: 1 + r.IntN(4), Hours: 1 + r.IntN(12), Slab: 50 + r.IntN(200), Cost: r.IntN(10), Sale: often(r, 40),
		From: 0, Day: from + r.IntN(6), Until: from + 8 + r.IntN(window-8),
	}
	s.Camel = api.Camel{Water: upTo(r, 500, s.Breed.Full), Fat: upTo(r, 500, s.Breed.Fed), Sore: span(0, often(r, 300)), Milks: r.IntN(3) == 0}
	s.From = r.IntN(len(s.Land.Wells))
	for range 1 + r.IntN(3) {
		s.Scenes = append(s.Scenes, someScene(r, len(s.Land.Wells)))
	}
	return s
}

// waysOf returns all lists of legs from a well on by which none is visited twice.
func waysOf(l api.Land, well int, visited []int) [][]int {
	ways := [][]int{nil}
	visited = append(slices.Clone(visited), well)
	for i, leg := range l.Legs {
		other := leg.From + leg.To - well
		if leg.From != well && leg.To != well || slices.Contains(visited, other) {
			continue
		}
		for _, rest := range waysOf(l, other, visited) {
			ways = append(ways, append(list(i), rest...))
		}
	}
	return ways
}

// someWay returns one of these ways, rather a long one.
func someWay(r *rand.Rand, s api.Season) []int {
	ways := waysOf(s.Land, s.From, nil)
	a, b := ways[r.IntN(len(ways))], ways[r.IntN(len(ways))]
	if len(a) > len(b) {
		return a
	}
	return b
}

func somePlan(r *rand.Rand, s api.Season) api.Plan {
	return plan(min(s.Herd, r.IntN(10)), r.IntN(1+often(r, 12)), someWay(r, s)...)
}

// What follows tells word by word of the chapter what is to be found.

// wetted returns the land of a season with the yields of a scene.
func wetted(s api.Season, scene api.Scene) api.Land {
	l := api.Land{Legs: s.Land.Legs}
	for i, w := range s.Land.Wells {
		w.Yield = scene.Yields[i]
		l.Wells = append(l.Wells, w)
	}
	return l
}

// hull returns the least span with all of others.
func hull(animals []api.Camel, of func(c api.Camel) api.Span) api.Span {
	var los, his []int
	for _, c := range animals {
		los, his = append(los, of(c).Lo), append(his, of(c).Hi)
	}
	return span(slices.Min(los), slices.Max(his))
}

// arrivalsIn returns the animals as they arrive at the stops of a way, as far as its legs are borne, and why the next one is not.
func arrivalsIn(s api.Season, scene api.Scene, p api.Plan) (arrive []api.Camel, why uint8) {
	left := s.Camel
	weight := p.Slabs * s.Slab
	if can, _ := camel.Carries(s.Breed, left); len(p.Legs) == 0 && weight > can.Lo {
		return nil, 2
	}
	for _, leg := range p.Legs {
		days, _ := way.Days(s.Land, leg, s.Pace)
		after := []api.Camel{left}
		for len(after) <= days.Hi {
			morning := after[len(after)-1]
			if can, _ := camel.Carries(s.Breed, morning); weight > can.Lo {
				return arrive, 2
			}
			evening, fate, e := camel.After(s.Breed, morning, api.March{Hours: s.Hours, Load: weight, Heat: scene.Heat, Grass: scene.Grass})
			if e != api.OK || fate != api.FateLives {
				return arrive, 3
			}
			after = append(after, evening)
		}
		left = api.Camel{
			Water: hull(after[days.Lo:], func(c api.Camel) api.Span { return c.Water }),
			Fat:   hull(after[days.Lo:], func(c api.Camel) api.Span { return c.Fat }),
			Sore:  hull(after[days.Lo:], func(c api.Camel) api.Span { return c.Sore }),
			Milks: left.Milks,
		}
		arrive = append(arrive, left)
		left.Water = exactly(s.Breed.Full)
	}
	return arrive, 0
}

// isSure tells whether a way is sure until the last day, with its stops.
func isSure(s api.Season, legs []int) ([]api.Stop, bool) {
	stops, _, e := way.Walk(s.Land, s.From, s.Day, s.Pace, legs)
	return stops, e == api.OK && (len(stops) == 0 || stops[len(stops)-1].Arrives.Hi <= s.Until)
}

// drawsIn returns what a plan that is gone draws in a scene.
func drawsIn(s api.Season, scene api.Scene, p api.Plan) []api.Draw {
	stops, _ := isSure(s, p.Legs)
	var draws []api.Draw
	for at := range len(stops) - 1 {
		x := draw(stops[at].Well, stops[at].Arrives.Lo, 0)
		if p.Animals > 0 {
			arrive, _ := arrivalsIn(s, scene, p)
			x.Water = p.Animals * (s.Breed.Full - arrive[at].Water.Lo)
		}
		draws = append(draws, x)
	}
	return draws
}

// faultOf returns why a plan does not hold.
func faultOf(s api.Season, p api.Plan) fault {
	stops, sure := isSure(s, p.Legs)
	if !sure {
		return fault{why: 1}
	}
	for i, scene := range s.Scenes {
		if p.Animals == 0 {
			break
		}
		arrive, why := arrivalsIn(s, scene, p)
		for at, c := range arrive {
			if at == len(p.Legs)-1 {
				break
			}
			if has, _, _ := way.Water(wetted(s, scene), stops[at].Well, nil, stops[at].Arrives.Lo); p.Animals*(s.Breed.Full-c.Water.Lo) > has.Lo {
				return fault{4, i, at}
			}
		}
		if why > 0 {
			return fault{why, i, len(arrive)}
		}
	}
	return fault{}
}

// earns returns what a plan earns in a scene.
func earns(s api.Season, scene api.Scene, p api.Plan) int {
	goal := s.From
	for _, leg := range p.Legs {
		goal = s.Land.Legs[leg].From + s.Land.Legs[leg].To - goal
	}
	rials := 0
	for range p.Animals {
		rials += p.Slabs*scene.Prices[goal] - p.Slabs*s.Cost
	}
	for range s.Herd - p.Animals {
		rials += s.Sale
	}
	return rials
}

func worthOf(s api.Season, p api.Plan) int {
	var l []int
	for _, scene := range s.Scenes {
		l = append(l, earns(s, scene, p))
	}
	return slices.Min(l)
}

// held returns all plans that hold.
func held(s api.Season) []api.Plan {
	var l []api.Plan
	for _, legs := range waysOf(s.Land, s.From, nil) {
		for animals := range s.Herd + 1 {
			for slabs := range 13 {
				if p := plan(animals, slabs, legs...); faultOf(s, p) == (fault{}) {
					l = append(l, p)
				}
			}
		}
	}
	return l
}

// better compares two plans: the better one is the lesser one.
func better(s api.Season) func(a, b api.Plan) int {
	return func(a, b api.Plan) int {
		return cmp.Or(
			cmp.Compare(worthOf(s, b), worthOf(s, a)), cmp.Compare(a.Animals, b.Animals), cmp.Compare(a.Slabs, b.Slabs),
			cmp.Compare(len(a.Legs), len(b.Legs)), slices.Compare(a.Legs, b.Legs),
		)
	}
}

// boundOf returns the bound by the wells that are reached in time by their surest ways.
func boundOf(s api.Season) int {
	slabs := 0
	for slabs < 12 && (slabs+1)*s.Slab <= s.Breed.Strong.Lo {
		slabs++
	}
	var bounds []int
	for _, scene := range s.Scenes {
		animal := s.Sale
		for well, price := range scene.Prices {
			legs, e := way.Surest(s.Land, s.From, well, s.Day, s.Pace)
			if _, sure := isSure(s, legs); e == api.OK && sure {
				animal = max(animal, 0, slabs*(price-s.Cost))
			}
		}
		bounds = append(bounds, animal*s.Herd)
	}
	return slices.Min(bounds)
}
