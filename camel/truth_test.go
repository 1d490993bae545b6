package camel_test

import (
	"math/big"
	"math/rand/v2"
	"slices"
	"testing"

	"azalai/api"
	"azalai/camel"
)

func number(n int) *big.Rat { return big.NewRat(int64(n), 1) }

func inside(x *big.Rat, s api.Span) bool {
	return number(s.Lo).Cmp(x) <= 0 && x.Cmp(number(s.Hi)) <= 0
}

func plus(l ...*big.Rat) *big.Rat {
	all := new(big.Rat)
	for _, x := range l {
		all.Add(all, x)
	}
	return all
}

func times(l ...*big.Rat) *big.Rat {
	all := number(1)
	for _, x := range l {
		all.Mul(all, x)
	}
	return all
}

func less(a, b *big.Rat) *big.Rat { return new(big.Rat).Sub(a, b) }

func least(l ...*big.Rat) *big.Rat { return slices.MinFunc(l, (*big.Rat).Cmp) }

func atLeast0(a *big.Rat) *big.Rat { return slices.MaxFunc([]*big.Rat{a, number(0)}, (*big.Rat).Cmp) }

// truth is what one animal really has.
type truth struct{ water, fat, sore *big.Rat }

// pick takes a real number of a span; up tells if the greater ones are good for the animal.
type pick func(s api.Span, up bool) *big.Rat

func best(s api.Span, up bool) *big.Rat {
	if up {
		return number(s.Hi)
	}
	return number(s.Lo)
}

func worst(s api.Span, up bool) *big.Rat { return best(s, !up) }

// anywhere takes numbers that are mostly not whole, and often at an end.
func anywhere(r *rand.Rand) pick {
	return func(s api.Span, up bool) *big.Rat {
		part := []*big.Rat{number(0), number(0), big.NewRat(1, 3), big.NewRat(1, 2), big.NewRat(6, 7), number(1), number(1)}[r.IntN(7)]
		return plus(number(s.Lo), times(part, number(s.Hi-s.Lo)))
	}
}

func begin(c api.Camel, of pick) truth {
	return truth{of(c.Water, true), of(c.Fat, true), of(c.Sore, false)}
}

// lives returns what is left after a day of what an animal has, word by word of the chapter, and whether it lives.
func (x truth) lives(b api.Breed, milks bool, m api.March, of pick) (truth, bool) {
	burden := times(number(m.Hours), number(100000+m.Load), big.NewRat(1, 100000))
	loses := plus(of(b.Rest, false), times(of(b.Heat, false), atLeast0(less(of(m.Heat, false), number(20)))), times(of(b.Toil, false), burden))
	if milks {
		loses = plus(loses, of(b.Milk, false))
	}
	water, fat := less(x.water, loses), less(x.fat, times(of(b.Burn, false), burden))
	if water.Sign() < 0 || fat.Sign() < 0 {
		return truth{}, false
	}
	sore := least(number(1000), plus(x.sore, times(of(b.Rub, false), number(m.Hours), number(m.Load), big.NewRat(1, 1000000))))
	if m.Hours == 0 {
		sore = atLeast0(less(sore, number(b.Heal)))
	}
	return truth{least(number(b.Full), plus(water, of(m.Drinks, true))), least(number(b.Fed), plus(fat, of(m.Grass, true))), sore}, true
}

func (x truth) fitness(b api.Breed) *big.Rat {
	return least(number(1000), times(number(2000), x.water, big.NewRat(1, int64(b.Full))), times(number(2000), x.fat, big.NewRat(1, int64(b.Fed))), less(number(1000), x.sore))
}

func (x truth) inside(c api.Camel) bool {
	return inside(x.water, c.Water) && inside(x.fat, c.Fat) && inside(x.sore, c.Sore)
}

// The random cases are such that animals live on some days, and die on others.

func upTo(r *rand.Rand, most int) api.Span {
	lo := r.IntN(most + 1)
	if r.IntN(3) == 0 {
		return span(lo, lo)
	}
	return span(lo, lo+r.IntN(most-lo+1))
}

func randomBreed(r *rand.Rand) api.Breed {
	return api.Breed{
		Full: 1 + r.IntN(2000), Fed: 1 + r.IntN(900), Rest: upTo(r, 60), Heat: upTo(r, 4), Toil: upTo(r, 15), Burn: upTo(r, 7),
		Rub: upTo(r, 300), Milk: upTo(r, 30), Heal: r.IntN(200), Strong: upTo(r, 300000),
	}
}

func randomCamel(r *rand.Rand, b api.Breed) api.Camel {
	high := func(most int) api.Span {
		s := upTo(r, most/2)
		return span(most-s.Hi, most-s.Lo)
	}
	return api.Camel{Water: high(b.Full), Fat: high(b.Fed), Sore: upTo(r, 500), Milks: r.IntN(3) == 0}
}

func randomMarch(r *rand.Rand) api.March {
	m := api.March{Hours: r.IntN(13), Load: r.IntN(200001), Heat: upTo(r, 60)}
	if r.IntN(4) == 0 {
		m.Hours = 0
	}
	if r.IntN(3) == 0 {
		m.Grass, m.Drinks = upTo(r, 100), upTo(r, 300)
	}
	return m
}

func randomTrip(r *rand.Rand) (api.Breed, api.Camel, []api.March) {
	b := randomBreed(r)
	l := make([]api.March, r.IntN(8))
	for i := range l {
		l[i] = randomMarch(r)
	}
	return b, randomCamel(r, b), l
}

// P1.9, N1: whatever is true on each day lies in what is told.
func TestTruths(t *testing.T) {
	r := rand.New(rand.NewPCG(1, 9))
	seen := map[uint8]int{}
	for range 4000 {
		b, c, l := randomTrip(r)
		all, fate, at, e := camel.Days(b, c, l)
		seen[fate]++
		if e == api.ErrDies {
			if all, _, _, e = camel.Days(b, c, l[:at]); e != api.OK {
				t.Fatal(b, c, l[:at], e)
			}
		}
		for _, of := range []pick{best, worst, anywhere(r), anywhere(r)} {
			checkTruth(t, b, c, l, all, fate, of)
		}
	}
	if seen[api.FateLives] < 400 || seen[api.FateOpen] < 400 || seen[api.FateDies] < 400 {
		t.Error("hardly any of one kind", seen)
	}
}

func checkTruth(t *testing.T, b api.Breed, c api.Camel, l []api.March, all []api.Camel, fate uint8, of pick) {
	t.Helper()
	x, alive := begin(c, of), true
	for i := range len(all) + 1 {
		fit, _ := camel.Fitness(b, c)
		carries, _ := camel.Carries(b, c)
		if load := times(x.fitness(b), of(b.Strong, true), big.NewRat(1, 1000)); !inside(x.fitness(b), fit) || !inside(load, carries) {
			t.Fatal(b, c, x, fit, carries)
		}
		if i == len(l) {
			return
		}
		x, alive = x.lives(b, c.Milks, l[i], of)
		if !alive {
			if fate == api.FateLives {
				t.Fatal("is said to live", b, c, l, i)
			}
			return
		}
		if i == len(all) {
			t.Fatal("is said to die", b, c, l, i)
		}
		if c = all[i]; !x.inside(c) {
			t.Fatal(b, l, i, x, c)
		}
	}
}

// P1.9: what is told of one day, of its fate and of its cost is so in each truth.
func TestTruthsOfCost(t *testing.T) {
	r := rand.New(rand.NewPCG(2, 9))
	for range 4000 {
		b, c := randomBreed(r), api.Camel{Milks: r.IntN(2) == 0}
		m := randomMarch(r)
		m.Drinks, m.Grass = span(0, 0), span(0, 0)
		water, fat, e := camel.Cost(b, c.Milks, m)
		if e != api.OK {
			t.Fatal(b, m, e)
		}
		rich := truth{number(1000000), number(1000000), number(0)}
		b.Full, b.Fed = 1000000, 1000000
		for _, of := range []pick{best, worst, anywhere(r)} {
			x, alive := rich.lives(b, c.Milks, m, of)
			if !alive || !inside(less(rich.water, x.water), water) || !inside(less(rich.fat, x.fat), fat) {
				t.Fatal(b, m, water, fat, x)
			}
		}
	}
}

// truly returns how many days, up to 60, one animal really lasts.
func truly(b api.Breed, c api.Camel, m api.March, of pick) int {
	x, alive := begin(c, of), true
	for n := range 60 {
		if x, alive = x.lives(b, c.Milks, m, of); !alive {
			return n
		}
	}
	return 60
}

// P1.10: an animal lasts as many days as is said; on loads without parts both ends of it come true.
func TestTruthsOfLasts(t *testing.T) {
	r := rand.New(rand.NewPCG(1, 10))
	for i := range 2000 {
		b := randomBreed(r)
		c, m := randomCamel(r, b), randomMarch(r)
		whole := i%2 == 0
		if whole {
			m.Load = m.Load / 100000 * 100000
		}
		lasts, e := camel.Lasts(b, c, m)
		if e != api.OK {
			t.Fatal(b, c, m, e)
		}
		for _, of := range []pick{best, worst, anywhere(r)} {
			if n := truly(b, c, m, of); n < lasts.Lo || n > lasts.Hi {
				t.Fatal(b, c, m, lasts, n)
			}
		}
		if whole && (truly(b, c, m, worst) != lasts.Lo || truly(b, c, m, best) != lasts.Hi) {
			t.Fatal(b, c, m, lasts)
		}
	}
}

// bears tells by After and Carries whether an animal lives for sure with a load on all days, and can carry it.
func bears(b api.Breed, c api.Camel, l []api.March, load int) bool {
	for _, m := range l {
		carries, _ := camel.Carries(b, c)
		m.Load = load
		next, fate, e := camel.After(b, c, m)
		if e != api.OK || fate != api.FateLives || m.Hours > 0 && carries.Lo < load {
			return false
		}
		c = next
	}
	return true
}

// P1.10: it carries the heaviest load on all days in each truth, and with more it may not.
func TestTruthsOfHeaviest(t *testing.T) {
	r := rand.New(rand.NewPCG(2, 10))
	found := 0
	for range 3000 {
		b, c, l := randomTrip(r)
		load, e := camel.Heaviest(b, c, l)
		if e == api.ErrDies {
			if load != 0 || bears(b, c, l, 0) {
				t.Fatal(b, c, l, load)
			}
			continue
		}
		if e != api.OK || !bears(b, c, l, load) || load < 1000000 && (bears(b, c, l, load+1) || bears(b, c, l, load+1+r.IntN(1000000-load))) {
			t.Fatal(b, c, l, load, e)
		}
		if 0 < load && load < 1000000 {
			found++
		}
		for _, of := range []pick{best, worst, anywhere(r)} {
			checkCarried(t, b, c, l, load, of)
		}
	}
	if found < 500 {
		t.Error("hardly any load", found)
	}
}

func checkCarried(t *testing.T, b api.Breed, c api.Camel, l []api.March, load int, of pick) {
	t.Helper()
	x, alive := begin(c, of), true
	for i, m := range l {
		m.Load = load
		carries := times(x.fitness(b), of(b.Strong, true), big.NewRat(1, 1000))
		if x, alive = x.lives(b, c.Milks, m, of); !alive || m.Hours > 0 && carries.Cmp(number(load)) < 0 {
			t.Fatal(b, c, l, i, load)
		}
	}
}
