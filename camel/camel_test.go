package camel_test

import (
	"math"
	"testing"

	"azalai/api"
	"azalai/camel"
)

func span(lo, hi int) api.Span { return api.Span{Lo: lo, Hi: hi} }

// The breed, the animal and the day of the chapter's examples.

func breed() api.Breed {
	return api.Breed{
		Full: 100000, Fed: 50000,
		Rest: span(2000, 2500), Heat: span(100, 100), Toil: span(200, 250), Burn: span(40, 50),
		Rub: span(100, 200), Milk: span(1000, 1500), Heal: 50, Strong: span(150000, 200000),
	}
}

func animal() api.Camel {
	return api.Camel{Water: span(60000, 70000), Fat: span(20000, 30000), Sore: span(0, 100)}
}

func march() api.March { return api.March{Hours: 10, Load: 100000, Heat: span(30, 40)} }

// with returns a value with a change, if there is one.
func with[T any](v T, change func(*T)) T {
	if change != nil {
		change(&v)
	}
	return v
}

func TestExamples(t *testing.T) {
	if f, e := camel.Fitness(breed(), animal()); f != span(800, 1000) || e != api.OK {
		t.Error("Fitness", f, e)
	}
	if c, e := camel.Carries(breed(), animal()); c != span(120000, 200000) || e != api.OK {
		t.Error("Carries", c, e)
	}
	if w, f, e := camel.Cost(breed(), false, march()); w != span(7000, 9500) || f != span(800, 1000) || e != api.OK {
		t.Error("Cost", w, f, e)
	}
	want := api.Camel{Water: span(50500, 63000), Fat: span(19000, 29200), Sore: span(100, 300)}
	if c, fate, e := camel.After(breed(), animal(), march()); c != want || fate != api.FateLives || e != api.OK {
		t.Error("After", c, fate, e)
	}
	if n, e := camel.Lasts(breed(), animal(), march()); n != span(6, 10) || e != api.OK {
		t.Error("Lasts", n, e)
	}
	meets := []api.Meet{{A: 0, B: 1, Day: 5}, {A: 1, B: 2, Day: 9, Close: true}}
	for day, want := range map[int]string{7: "\x02\x00\x00", 8: "\x02\x01\x00", 12: "\x02\x01\x01"} {
		if l, e := camel.Mange(3, []int{0}, meets, span(3, 5), day); string(l) != want || e != api.OK {
			t.Error("Mange", day, l, e)
		}
	}
}

// spanOf is a span among the fields of a value, and how far it may go.
type spanOf[T any] struct {
	name string
	of   func(*T) *api.Span
	most int
}

// numberOf is a number among the fields of a value, and from what to what it may be.
type numberOf[T any] struct {
	name        string
	of          func(*T) *int
	least, most int
}

func breedSpans() []spanOf[api.Breed] {
	return []spanOf[api.Breed]{
		{"Rest", func(b *api.Breed) *api.Span { return &b.Rest }, 100000},
		{"Heat", func(b *api.Breed) *api.Span { return &b.Heat }, 100000},
		{"Toil", func(b *api.Breed) *api.Span { return &b.Toil }, 100000},
		{"Burn", func(b *api.Breed) *api.Span { return &b.Burn }, 100000},
		{"Rub", func(b *api.Breed) *api.Span { return &b.Rub }, 100000},
		{"Milk", func(b *api.Breed) *api.Span { return &b.Milk }, 100000},
		{"Strong", func(b *api.Breed) *api.Span { return &b.Strong }, 1000000},
	}
}

func breedNumbers() []numberOf[api.Breed] {
	return []numberOf[api.Breed]{
		{"Full", func(b *api.Breed) *int { return &b.Full }, 1, 1000000},
		{"Fed", func(b *api.Breed) *int { return &b.Fed }, 1, 1000000},
		{"Heal", func(b *api.Breed) *int { return &b.Heal }, 0, 1000},
	}
}

func camelSpans() []spanOf[api.Camel] {
	return []spanOf[api.Camel]{
		{"Water", func(c *api.Camel) *api.Span { return &c.Water }, 100000},
		{"Fat", func(c *api.Camel) *api.Span { return &c.Fat }, 50000},
		{"Sore", func(c *api.Camel) *api.Span { return &c.Sore }, 1000},
	}
}

func marchSpans() []spanOf[api.March] {
	return []spanOf[api.March]{
		{"Heat", func(m *api.March) *api.Span { return &m.Heat }, 60},
		{"Grass", func(m *api.March) *api.Span { return &m.Grass }, 1000000},
		{"Drinks", func(m *api.March) *api.Span { return &m.Drinks }, 1000000},
	}
}

func marchNumbers() []numberOf[api.March] {
	return []numberOf[api.March]{
		{"Hours", func(m *api.March) *int { return &m.Hours }, 0, 24},
		{"Load", func(m *api.March) *int { return &m.Load }, 0, 1000000},
	}
}

// spanCases are spans at the edges of those from 0 to a number, with whether they are among them.
func spanCases(most int) map[api.Span]bool {
	return map[api.Span]bool{
		span(0, 0): true, span(0, most): true, span(most, most): true, span(1, 1): true,
		span(-1, 0): false, span(0, most+1): false, span(most+1, most+1): false, span(1, 0): false, span(most, most-1): false,
		span(math.MinInt, math.MaxInt): false, span(math.MaxInt, math.MinInt): false, span(math.MinInt, 0): false, span(0, math.MaxInt): false,
		span(math.MinInt, math.MinInt): false, span(math.MaxInt, math.MaxInt): false,
	}
}

func numberCases(least, most int) map[int]bool {
	return map[int]bool{least: true, most: true, least + 1: true, least - 1: false, most + 1: false, math.MinInt: false, math.MaxInt: false}
}

// checkFields puts each edge into each field of a value, and compares the error with the one that is due.
func checkFields[T any](t *testing.T, value T, spans []spanOf[T], numbers []numberOf[T], bad api.Errno, check func(T) api.Errno) {
	t.Helper()
	due := map[bool]api.Errno{true: api.OK, false: bad}
	for _, f := range spans {
		for s, valid := range spanCases(f.most) {
			if e := check(with(value, func(v *T) { *f.of(v) = s })); e != due[valid] {
				t.Error(f.name, s, e)
			}
		}
	}
	for _, f := range numbers {
		for n, valid := range numberCases(f.least, f.most) {
			if e := check(with(value, func(v *T) { *f.of(v) = n })); e != due[valid] {
				t.Error(f.name, n, e)
			}
		}
	}
}

// P1.1: CheckBreed and CheckCamel.
func TestChecks(t *testing.T) {
	checkFields(t, breed(), breedSpans(), breedNumbers(), api.ErrBreed, camel.CheckBreed)
	checkFields(t, animal(), camelSpans(), nil, api.ErrCamel, func(c api.Camel) api.Errno { return camel.CheckCamel(breed(), c) })
	// A breed that nothing would make is valid nevertheless.
	if e := camel.CheckBreed(api.Breed{Full: 1, Fed: 1}); e != api.OK {
		t.Error(e)
	}
	if e := camel.CheckCamel(api.Breed{}, animal()); e != api.ErrBreed {
		t.Error(e)
	}
}

// P1.1: each of the four is the least one once, at both ends, and each quotient is rounded.
func TestFitnessAndCarries(t *testing.T) {
	odd := api.Breed{Full: 7, Fed: 3, Strong: span(7, 9)}
	strong := api.Breed{Full: 1000000, Fed: 1000000, Strong: span(1000000, 1000000)}
	for i, x := range []struct {
		b          api.Breed
		c          api.Camel
		fit, loads api.Span
	}{
		{breed(), api.Camel{Water: span(50000, 100000), Fat: span(25000, 50000)}, span(1000, 1000), span(150000, 200000)},
		{breed(), api.Camel{Water: span(49950, 49950), Fat: span(50000, 50000)}, span(999, 999), span(149850, 199800)},
		{breed(), api.Camel{Water: span(49949, 49951), Fat: span(50000, 50000)}, span(998, 1000), span(149700, 200000)},
		{breed(), api.Camel{Water: span(100000, 100000), Fat: span(101, 102)}, span(4, 5), span(600, 1000)},
		{breed(), api.Camel{Water: span(0, 100000), Fat: span(50000, 50000)}, span(0, 1000), span(0, 200000)},
		{breed(), api.Camel{Water: span(100000, 100000), Fat: span(50000, 50000), Sore: span(1, 999)}, span(1, 999), span(150, 199800)},
		{breed(), api.Camel{Water: span(100000, 100000), Fat: span(50000, 50000), Sore: span(1000, 1000)}, span(0, 0), span(0, 0)},
		{odd, api.Camel{Water: span(1, 1), Fat: span(3, 3)}, span(285, 286), span(1, 3)},
		{odd, api.Camel{Water: span(7, 7), Fat: span(1, 1)}, span(666, 667), span(4, 7)},
		{odd, api.Camel{Water: span(3, 4), Fat: span(1, 2), Sore: span(0, 200)}, span(666, 1000), span(4, 9)},
		{strong, api.Camel{Water: span(1000000, 1000000), Fat: span(1000000, 1000000)}, span(1000, 1000), span(1000000, 1000000)},
		{api.Breed{Full: 1, Fed: 1}, api.Camel{}, span(0, 0), span(0, 0)},
	} {
		f, e := camel.Fitness(x.b, x.c)
		l, g := camel.Carries(x.b, x.c)
		if f != x.fit || l != x.loads || e != api.OK || g != api.OK {
			t.Error(i, f, e, l, g)
		}
	}
}

// P1.2.
func TestCost(t *testing.T) {
	most := api.Breed{
		Full: 1, Fed: 1, Rest: span(100000, 100000), Heat: span(100000, 100000), Toil: span(100000, 100000),
		Burn: span(100000, 100000), Milk: span(100000, 100000),
	}
	thirds := api.Breed{Full: 1, Fed: 1, Rest: span(5, 7), Toil: span(1, 1), Burn: span(2, 2)}
	for i, x := range []struct {
		b          api.Breed
		milks      bool
		m          api.March
		water, fat api.Span
	}{
		{breed(), true, march(), span(8000, 11000), span(800, 1000)},
		{breed(), false, api.March{}, span(2000, 2500), span(0, 0)},
		{breed(), true, api.March{}, span(3000, 4000), span(0, 0)},
		{breed(), false, api.March{Load: 1000000, Grass: span(5, 6), Drinks: span(7, 8)}, span(2000, 2500), span(0, 0)},
		// Only what is above 20 degrees counts.
		{breed(), false, api.March{Heat: span(0, 20)}, span(2000, 2500), span(0, 0)},
		{breed(), false, api.March{Heat: span(20, 21)}, span(2000, 2600), span(0, 0)},
		{breed(), false, api.March{Heat: span(21, 60)}, span(2100, 6500), span(0, 0)},
		{breed(), false, api.March{Hours: 1}, span(2200, 2750), span(40, 50)},
		{breed(), false, api.March{Hours: 1, Load: 1}, span(2200, 2751), span(40, 51)},
		{thirds, false, api.March{Hours: 1, Load: 99999}, span(6, 9), span(3, 4)},
		{thirds, false, api.March{Hours: 2, Load: 100000}, span(9, 11), span(8, 8)},
		{most, true, api.March{Hours: 24, Load: 1000000, Heat: span(60, 60)}, span(30600000, 30600000), span(26400000, 26400000)},
	} {
		w, f, e := camel.Cost(x.b, x.milks, x.m)
		if w != x.water || f != x.fat || e != api.OK {
			t.Error(i, w, f, e)
		}
	}
	checkFields(t, march(), marchSpans(), marchNumbers(), api.ErrMarch, func(m api.March) api.Errno {
		_, _, e := camel.Cost(breed(), false, m)
		return e
	})
}

// P1.3. The day costs 7,000 to 9,500 of water and 800 to 1,000 of fat, and rubs 100 to 200.
func TestAfter(t *testing.T) {
	// What a case does not change.
	fine := api.Camel{Water: span(50500, 63000), Fat: span(19000, 29200), Sore: span(100, 300)}
	for i, x := range []struct {
		c    func(*api.Camel)
		m    func(*api.March)
		want func(*api.Camel)
		fate uint8
	}{
		// At the edge between to live and to be open, and between that and to die.
		{func(c *api.Camel) { c.Water.Lo = 9500 }, nil, func(c *api.Camel) { c.Water.Lo = 0 }, api.FateLives},
		{func(c *api.Camel) { c.Water.Lo = 9499 }, nil, func(c *api.Camel) { c.Water.Lo = 0 }, api.FateOpen},
		{func(c *api.Camel) { c.Water = span(0, 7000) }, nil, func(c *api.Camel) { c.Water = span(0, 0) }, api.FateOpen},
		{func(c *api.Camel) { c.Water = span(0, 6999) }, nil, nil, api.FateDies},
		{func(c *api.Camel) { c.Fat.Lo = 1000 }, nil, func(c *api.Camel) { c.Fat.Lo = 0 }, api.FateLives},
		{func(c *api.Camel) { c.Fat.Lo = 999 }, nil, func(c *api.Camel) { c.Fat.Lo = 0 }, api.FateOpen},
		{func(c *api.Camel) { c.Fat = span(800, 800) }, nil, func(c *api.Camel) { c.Fat = span(0, 0) }, api.FateOpen},
		{func(c *api.Camel) { c.Fat = span(0, 799) }, nil, nil, api.FateDies},
		{func(c *api.Camel) { c.Water.Lo, c.Fat = 0, span(0, 799) }, nil, nil, api.FateDies},
		// What it gets in the evening does not save it, nor is it eaten up by what it had too little of.
		{func(c *api.Camel) { c.Water = span(6999, 6999) }, func(m *api.March) { m.Drinks = span(100000, 100000) }, nil, api.FateDies},
		{func(c *api.Camel) { c.Water.Lo = 0 }, func(m *api.March) { m.Drinks = span(5, 6) }, func(c *api.Camel) { c.Water = span(5, 63006) }, api.FateOpen},
		{func(c *api.Camel) { c.Fat.Lo = 0 }, func(m *api.March) { m.Grass = span(5, 6) }, func(c *api.Camel) { c.Fat = span(5, 29206) }, api.FateOpen},
		// Up to Full, and up to Fed.
		{nil, func(m *api.March) { m.Drinks = span(37000, 37001) }, func(c *api.Camel) { c.Water = span(87500, 100000) }, api.FateLives},
		{nil, func(m *api.March) { m.Drinks = span(1000000, 1000000) }, func(c *api.Camel) { c.Water = span(100000, 100000) }, api.FateLives},
		{nil, func(m *api.March) { m.Grass = span(20799, 20801) }, func(c *api.Camel) { c.Fat = span(39799, 50000) }, api.FateLives},
		{nil, func(m *api.March) { m.Grass = span(1000000, 1000000) }, func(c *api.Camel) { c.Fat = span(50000, 50000) }, api.FateLives},
		// Sores: rounded down and up, up to Whole; less on a day without hours, whatever the load, down to 0.
		{nil, func(m *api.March) { m.Hours = 9 }, func(c *api.Camel) {
			*c = api.Camel{Water: span(51000, 63400), Fat: span(19100, 29280), Sore: span(90, 280)}
		}, api.FateLives},
		{nil, func(m *api.March) { m.Load = 100001 }, func(c *api.Camel) {
			*c = api.Camel{Water: span(50499, 63000), Fat: span(18999, 29200), Sore: span(100, 301)}
		}, api.FateLives},
		{func(c *api.Camel) { c.Sore = span(899, 900) }, nil, func(c *api.Camel) { c.Sore = span(999, 1000) }, api.FateLives},
		{func(c *api.Camel) { c.Sore = span(901, 1000) }, nil, func(c *api.Camel) { c.Sore = span(1000, 1000) }, api.FateLives},
		{func(c *api.Camel) { c.Sore = span(60, 100) }, func(m *api.March) { m.Hours = 0 }, func(c *api.Camel) {
			*c = api.Camel{Water: span(55500, 67000), Fat: span(20000, 30000), Sore: span(10, 50)}
		}, api.FateLives},
		{nil, func(m *api.March) { m.Hours = 0 }, func(c *api.Camel) {
			*c = api.Camel{Water: span(55500, 67000), Fat: span(20000, 30000), Sore: span(0, 50)}
		}, api.FateLives},
		// A day with hours does not heal, also without a load.
		{nil, func(m *api.March) { m.Load = 0 }, func(c *api.Camel) {
			*c = api.Camel{Water: span(53000, 65000), Fat: span(19500, 29600), Sore: span(0, 100)}
		}, api.FateLives},
		{func(c *api.Camel) { c.Milks = true }, nil, func(c *api.Camel) { c.Water, c.Milks = span(49000, 62000), true }, api.FateLives},
	} {
		want, fate, due := with(fine, x.want), x.fate, api.OK
		if x.fate == api.FateDies {
			want, fate, due = api.Camel{}, 0, api.ErrDies
		}
		if got, f, e := camel.After(breed(), with(animal(), x.c), with(march(), x.m)); got != want || f != fate || e != due {
			t.Error(i, got, f, e, "want", want)
		}
	}
	checkFields(t, march(), marchSpans(), marchNumbers(), api.ErrMarch, func(m api.March) api.Errno {
		// A breed that loses nothing does not die on any day.
		_, _, e := camel.After(api.Breed{Full: 1, Fed: 1}, api.Camel{}, m)
		return e
	})
}
