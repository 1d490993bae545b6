package season_test

import (
	"math/big"
	"math/rand/v2"
	"slices"
	"testing"

	"azalai/api"
	"azalai/season"
	"azalai/way"
)

// P9.1, P9.2: whether plans hold, what they are worth and what they take, by the chapter told otherwise.
func TestPlansTold(t *testing.T) {
	r := rand.New(rand.NewPCG(9, 1))
	whys, scenes, places, takes := [5]int{}, [3]int{}, [4]int{}, 0
	for range 6000 {
		s := someSeason(r)
		for range 3 {
			c := call{s: s, p: somePlan(r, s), scene: r.IntN(len(s.Scenes))}
			f := faultOf(s, c.p)
			c.wantHeld(t, f)
			if f.why == api.HoldsYes {
				c.wantWorth(t, worthOf(s, c.p))
				draws := drawsIn(s, s.Scenes[c.scene], c.p)
				c.wantTaken(t, draws...)
				takes += len(draws) * c.p.Animals
			}
			if t.Failed() {
				t.FailNow()
			}
			whys[f.why]++
			if f.why > api.HoldsShut {
				scenes[f.scene]++
				places[f.at]++
			}
		}
	}
	if slices.Min(whys[:]) < 300 || slices.Min(scenes[:]) < 50 || slices.Min(places[:3]) < 30 || takes < 500 {
		t.Error(whys, scenes, places, takes)
	}
}

// P9.3, P9.4, P9.6, N9: no plan that holds is worth more than the best one, or as much and before it; none is worth more than the bound.
func TestBestTold(t *testing.T) {
	r := rand.New(rand.NewPCG(9, 2))
	legs, fewer, ties, reached := [4]int{}, 0, 0, 0
	for range 2000 {
		s := someSeason(r)
		if r.IntN(2) == 0 {
			s.Sale = 0
		}
		if r.IntN(2) == 0 {
			// So that many plans are worth the same.
			for _, scene := range s.Scenes {
				for well := range scene.Prices {
					scene.Prices[well] = s.Cost + 6*r.IntN(3)
				}
			}
		}
		if r.IntN(3) > 0 {
			// So that it is good to leave.
			for _, scene := range s.Scenes {
				scene.Prices[s.From] = 0
			}
		}
		plans := held(s)
		best := slices.MinFunc(plans, better(s))
		worth := worthOf(s, best)
		wantBest(t, s, best, worth)
		bound := boundOf(s)
		wantBound(t, s, bound)
		if worth > bound {
			t.Errorf("%+v: %v is worth %v, which is above %v", s, best, worth, bound)
		}
		if t.Failed() {
			t.FailNow()
		}
		legs[min(3, len(best.Legs))]++
		if 0 < best.Animals && best.Animals < s.Herd {
			fewer++
		}
		if best.Animals > 0 && slices.ContainsFunc(plans, func(p api.Plan) bool { return worthOf(s, p) == worth && better(s)(p, best) != 0 }) {
			ties++
		}
		if worth == bound {
			reached++
		}
	}
	if slices.Min(legs[:]) < 10 || fewer < 50 || ties < 100 || reached < 100 {
		t.Error(legs, fewer, ties, reached)
	}
}

func number(n int) *big.Rat { return big.NewRat(int64(n), 1) }

func plus(l ...*big.Rat) *big.Rat {
	all := new(big.Rat)
	for _, x := range l {
		all.Add(all, x)
	}
	return all
}

func times(l ...*big.Rat) *big.Rat {
	all := number(1)
	for _, x := range l {
		all.Mul(all, x)
	}
	return all
}

func less(a, b *big.Rat) *big.Rat { return new(big.Rat).Sub(a, b) }

func least(l ...*big.Rat) *big.Rat { return slices.MinFunc(l, (*big.Rat).Cmp) }

// down returns a number rounded down.
func down(x *big.Rat) int { return int(new(big.Int).Quo(x.Num(), x.Denom()).Int64()) }

// pick takes a real number of a span; up tells if the greater ones are good for the caravan.
type pick func(s api.Span, up bool) *big.Rat

func best(s api.Span, up bool) *big.Rat {
	if up {
		return number(s.Hi)
	}
	return number(s.Lo)
}

func worst(s api.Span, up bool) *big.Rat { return best(s, !up) }

// anywhere takes numbers that are mostly not whole, and often at an end.
func anywhere(r *rand.Rand) pick {
	return func(s api.Span, up bool) *big.Rat {
		part := []*big.Rat{number(0), number(0), big.NewRat(1, 3), big.NewRat(1, 2), big.NewRat(6, 7), number(1), number(1)}[r.IntN(7)]
		return plus(number(s.Lo), times(part, number(s.Hi-s.Lo)))
	}
}

// truth is what one animal really has.
type truth struct{ water, fat, sore *big.Rat }

// fits tells whether an animal can carry a load in truth.
func (x truth) fits(b api.Breed, load int, of pick) bool {
	fitness := least(number(1000), times(number(2000), x.water, big.NewRat(1, int64(b.Full))), times(number(2000), x.fat, big.NewRat(1, int64(b.Fed))), less(number(1000), x.sore))
	return number(load).Cmp(times(of(b.Strong, true), fitness, big.NewRat(1, 1000))) <= 0
}

// goes returns what is left after a day of what an animal has, word by word of the first chapter, and whether it lives.
func (x truth) goes(s api.Season, scene api.Scene, load int, of pick) (truth, bool) {
	burden := times(number(s.Hours), number(100000+load), big.NewRat(1, 100000))
	heat := less(of(scene.Heat, false), number(20))
	if heat.Sign() < 0 {
		heat = number(0)
	}
	loses := plus(of(s.Breed.Rest, false), times(of(s.Breed.Heat, false), heat), times(of(s.Breed.Toil, false), burden))
	if s.Camel.Milks {
		loses = plus(loses, of(s.Breed.Milk, false))
	}
	water, fat := less(x.water, loses), less(x.fat, times(of(s.Breed.Burn, false), burden))
	if water.Sign() < 0 || fat.Sign() < 0 {
		return truth{}, false
	}
	sore := least(number(1000), plus(x.sore, times(of(s.Breed.Rub, false), number(s.Hours), number(load), big.NewRat(1, 1000000))))
	return truth{water, least(number(s.Breed.Fed), plus(fat, of(scene.Grass, true))), sore}, true
}

// leaves returns the first day from one on from which a leg is really open for so many days.
func leaves(gates [][2]int, day, days int) (int, bool) {
	for _, g := range gates {
		if first := max(day, g[0]); first+days-1 <= g[1] {
			return first, true
		}
	}
	return 0, false
}

// trip is a caravan on its way in truth.
type trip struct {
	s       api.Season
	scene   api.Scene
	p       api.Plan
	of      pick
	day     int
	at      int
	animals []truth
	// wells is what each well has on the day so far.
	wells []*big.Rat
	draws []api.Draw
}

// waits lets some days pass on which wells get their yields.
func (c *trip) waits(until int) {
	for ; c.day < until; c.day++ {
		for i, w := range c.s.Land.Wells {
			c.wells[i] = least(number(w.Room), plus(c.wells[i], number(down(c.of(c.scene.Yields[i], true)))))
		}
	}
}

// goes goes a leg, and tells what is not as it was promised.
func (c *trip) goes(leg api.Leg) string {
	var gates [][2]int
	for _, g := range leg.Gates {
		gates = append(gates, [2]int{down(c.of(g.Opens, false)), down(c.of(g.Shuts, true))})
	}
	rest, step, days := c.of(leg.Long, false), c.of(c.s.Pace, true), 0
	for ; rest.Sign() > 0; rest = less(rest, step) {
		days++
	}
	day, open := leaves(gates, c.day, days)
	if !open {
		return "the leg is shut"
	}
	c.waits(day)
	load := c.p.Slabs * c.s.Slab
	for range days {
		for i, x := range c.animals {
			if !x.fits(c.s.Breed, load, c.of) {
				return "an animal carries more than it can"
			}
			var lives bool
			if c.animals[i], lives = x.goes(c.s, c.scene, load, c.of); !lives {
				return "an animal dies"
			}
		}
		c.waits(c.day + 1)
	}
	c.at = leg.From + leg.To - c.at
	return ""
}

// drinks lets all animals drink at a well, and tells what is not as it was promised.
func (c *trip) drinks() string {
	need := number(0)
	for i, x := range c.animals {
		need = plus(need, less(number(c.s.Breed.Full), x.water))
		c.animals[i].water = number(c.s.Breed.Full)
	}
	if need.Cmp(c.wells[c.at]) > 0 {
		return "the well is dry"
	}
	if next := c.draws[0]; next.Well != c.at || c.day < next.Day || need.Cmp(number(next.Water)) > 0 {
		return "more is drawn, or earlier, than is told"
	}
	c.wells[c.at], c.draws = less(c.wells[c.at], need), c.draws[1:]
	return ""
}

// wrong goes a plan in a scene, and tells what is not as it was promised.
func wrong(s api.Season, scene int, p api.Plan, of pick) string {
	c := &trip{s: s, scene: s.Scenes[scene], p: p, of: of, at: s.From}
	var e api.Errno
	if c.draws, e = season.Takes(s, p, scene); e != api.OK {
		return e.Error()
	}
	for _, w := range s.Land.Wells {
		c.wells = append(c.wells, of(w.Has, true))
	}
	// Of many days before the first one it is so in truth that no yields come on the earlier ones: somePlanThatHolds makes this possible.
	c.day = max(0, s.Day-100)
	c.waits(s.Day)
	for range p.Animals {
		c.animals = append(c.animals, truth{of(s.Camel.Water, true), of(s.Camel.Fat, true), of(s.Camel.Sore, false)})
	}
	if load := p.Slabs * s.Slab; len(p.Legs) == 0 && slices.ContainsFunc(c.animals, func(x truth) bool { return !x.fits(s.Breed, load, of) }) {
		return "an animal carries more than it can"
	}
	for i, leg := range p.Legs {
		if bad := c.goes(s.Land.Legs[leg]); bad != "" {
			return bad
		}
		if i < len(p.Legs)-1 {
			if bad := c.drinks(); bad != "" {
				return bad
			}
		}
	}
	rials := p.Animals*p.Slabs*(c.scene.Prices[c.at]-s.Cost) + (s.Herd-p.Animals)*s.Sale
	if worth, e := season.Worth(s, p); worth > rials || e != api.OK {
		return "it earns less than its worth"
	}
	if c.day > s.Until {
		return "it is late"
	}
	return ""
}

// fullest returns a plan of a way that holds, with as many slabs as may be, and then as many animals; or the other way round.
func fullest(r *rand.Rand, s api.Season, legs []int) api.Plan {
	p := plan(1, 0, legs...)
	more := []func(p *api.Plan){func(p *api.Plan) { p.Slabs++ }, func(p *api.Plan) { p.Animals++ }}
	if r.IntN(2) == 0 {
		slices.Reverse(more)
	}
	for _, grow := range more {
		for {
			next := with(p, grow)
			if why, _, _, e := season.Holds(s, next); e != api.OK || why != api.HoldsYes {
				break
			}
			p = next
		}
	}
	return p
}

// somePlanThatHolds returns a season with a plan that holds, with an animal at least.
func somePlanThatHolds(r *rand.Rand) (api.Season, api.Plan) {
	for {
		s := someSeason(r)
		if s.Day > 100 {
			for i := range s.Scenes {
				for well := range s.Land.Wells {
					s.Scenes[i].Yields[well].Lo = 0
				}
			}
		}
		legs := someWay(r, s)
		if len(legs) < r.IntN(4) {
			continue
		}
		if p := fullest(r, s, legs); faultOf(s, p) == (fault{}) {
			return s, p
		}
	}
}

// P9.5, N9: whatever comes, a plan that holds is gone, and it earns its worth at least.
func TestTruths(t *testing.T) {
	r := rand.New(rand.NewPCG(9, 3))
	legs, slabs, animals := [5]int{}, [13]int{}, [5]int{}
	for range 600 {
		s, p := somePlanThatHolds(r)
		for scene := range s.Scenes {
			for _, of := range []pick{best, worst, anywhere(r), anywhere(r)} {
				if bad := wrong(s, scene, p, of); bad != "" {
					t.Fatalf("%+v %+v: %s", s, p, bad)
				}
			}
		}
		legs[len(p.Legs)]++
		slabs[p.Slabs]++
		animals[p.Animals]++
	}
	if slices.Min(legs[:4]) < 20 || slices.Min(slabs[:]) < 3 || slices.Min(animals[1:]) < 20 {
		t.Error(legs, slabs, animals)
	}
}

// P9.7: what holds does so with a lighter slab, more water, a scene less, fewer animals and fewer slabs.
func TestEasier(t *testing.T) {
	r := rand.New(rand.NewPCG(9, 5))
	more := func(s api.Span, lo int) api.Span { return span(s.Lo+lo, s.Hi+lo+r.IntN(9)) }
	for range 3000 {
		s, p := somePlanThatHolds(r)
		for i, ease := range []func(s *api.Season, p *api.Plan){
			func(s *api.Season, p *api.Plan) { s.Slab = 1 + r.IntN(s.Slab) },
			func(s *api.Season, p *api.Plan) {
				s.Land = wetted(*s, s.Scenes[0])
				for i, w := range s.Land.Wells {
					s.Land.Wells[i].Room, s.Land.Wells[i].Has = w.Room+99, more(w.Has, r.IntN(90))
				}
			},
			func(s *api.Season, p *api.Plan) {
				s.Scenes = slices.Clone(s.Scenes)
				for i, scene := range s.Scenes {
					s.Scenes[i].Yields = slices.Clone(scene.Yields)
					for well, yield := range scene.Yields {
						s.Scenes[i].Yields[well] = more(yield, r.IntN(9))
					}
				}
			},
			func(s *api.Season, p *api.Plan) {
				if n := len(s.Scenes); n > 1 {
					i := r.IntN(n)
					s.Scenes = slices.Concat(s.Scenes[:i], s.Scenes[i+1:])
				}
			},
			func(s *api.Season, p *api.Plan) { p.Animals = r.IntN(p.Animals) },
			func(s *api.Season, p *api.Plan) { p.Slabs = r.IntN(p.Slabs + 1) },
		} {
			a, b := s, p
			ease(&a, &b)
			if (call{s: a, p: b}).wantHeld(t, fault{}); t.Failed() {
				t.Fatal(i)
			}
		}
	}
}

// P9.8: what is drawn was there, in each scene, and nothing of it is lost.
func TestWaterIsConserved(t *testing.T) {
	r := rand.New(rand.NewPCG(9, 6))
	drawn, all := 0, 0
	for range 3000 {
		s, p := somePlanThatHolds(r)
		for scene := range s.Scenes {
			draws, e := season.Takes(s, p, scene)
			if e != api.OK || len(draws) != max(0, len(p.Legs)-1) {
				t.Fatal(draws, e)
			}
			land := wetted(s, s.Scenes[scene])
			for _, d := range draws {
				before, _, _ := way.Water(land, d.Well, nil, d.Day)
				after, at, e := way.Water(land, d.Well, draws, d.Day+1)
				room, yield := land.Wells[d.Well].Room, land.Wells[d.Well].Yield
				left := span(min(room, before.Lo+yield.Lo)-d.Water, min(room, before.Hi+yield.Hi)-d.Water)
				if d.Water > before.Lo || after != left || at != 0 || e != api.OK {
					t.Fatalf("%+v %+v: %v of %v leaves %v, %v", s, p, d, before, after, e)
				}
				drawn++
				if d.Water+200 > before.Lo {
					all++
				}
			}
		}
	}
	if drawn < 1000 || all < 100 {
		t.Error(drawn, all)
	}
}
