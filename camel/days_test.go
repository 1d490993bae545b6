package camel_test

import (
	"slices"
	"testing"

	"azalai/api"
	"azalai/camel"
)

// idle is a breed that loses 10 of water and burns 5 of fat an hour without a load, and 100 a day by its rest.
func idle() api.Breed {
	return api.Breed{Full: 1000, Fed: 1000, Rest: span(100, 100), Toil: span(10, 10), Burn: span(5, 5), Rub: span(1000, 1000), Heal: 100, Strong: span(500000, 600000)}
}

func full() api.Camel { return api.Camel{Water: span(1000, 1000), Fat: span(1000, 1000)} }

// P1.4: the days are those of After, one after the other, up to the first one on which it dies for sure.
func TestDays(t *testing.T) {
	drink := api.March{Drinks: span(5000, 6000), Grass: span(10, 20)}
	l := []api.March{march(), drink, march(), march(), {Heat: span(0, 60)}, {Hours: 24, Load: 320000}, drink, {Hours: 24, Load: 1000000}}
	var want []api.Camel
	c := animal()
	for i, m := range l[:7] {
		var e api.Errno
		if c, _, e = camel.After(breed(), c, m); e != api.OK {
			t.Fatal(i, e)
		}
		want = append(want, c)
		all, fate, at, e := camel.Days(breed(), animal(), l[:i+1])
		worst := uint8(api.FateLives)
		if i >= 5 {
			// Also the day with water, on which it lives for sure, is after one on which it may have died.
			worst = api.FateOpen
		}
		if !slices.Equal(all, want) || fate != worst || at != 0 || e != api.OK {
			t.Error(i, all, fate, at, e)
		}
	}
	if all, fate, at, e := camel.Days(breed(), animal(), l); len(all) != 0 || fate != api.FateDies || at != 7 || e != api.ErrDies {
		t.Error(all, fate, at, e)
	}
	if all, fate, at, e := camel.Days(breed(), animal(), nil); len(all) != 0 || fate != api.FateLives || at != 0 || e != api.OK {
		t.Error(all, fate, at, e)
	}
	// The first day is the one with the index 0, and what comes after it does not matter.
	if all, fate, at, e := camel.Days(breed(), api.Camel{}, l); len(all) != 0 || fate != api.FateDies || at != 0 || e != api.ErrDies {
		t.Error(all, fate, at, e)
	}
}

func TestDaysLimits(t *testing.T) {
	calm := api.Breed{Full: 1, Fed: 1}
	if all, fate, at, e := camel.Days(calm, api.Camel{}, make([]api.March, 60)); len(all) != 60 || fate != api.FateLives || at != 0 || e != api.OK {
		t.Error(all, fate, at, e)
	}
	for i, x := range []struct {
		l []api.March
		e api.Errno
	}{
		{make([]api.March, 61), api.ErrMany},
		{slices.Repeat([]api.March{{Hours: -1}}, 61), api.ErrMany},
		// An invalid day counts also behind the one on which it dies.
		{[]api.March{{}, {Hours: 25}}, api.ErrMarch},
		{[]api.March{{Load: -1}, {}}, api.ErrMarch},
		{[]api.March{{}, {}}, api.ErrDies},
	} {
		all, fate, at, e := camel.Days(breed(), api.Camel{}, x.l)
		dies := x.e == api.ErrDies
		if e != x.e || len(all) != 0 || at != 0 || (fate == api.FateDies) != dies || !dies && fate != 0 {
			t.Error(i, all, fate, at, e)
		}
	}
}

// P1.5.
func TestLasts(t *testing.T) {
	calm := api.Breed{Full: 1, Fed: 1}
	for i, x := range []struct {
		b    api.Breed
		c    api.Camel
		m    api.March
		want api.Span
	}{
		{idle(), full(), api.March{}, span(10, 10)},
		{idle(), full(), api.March{Hours: 10}, span(5, 5)},
		{idle(), with(full(), func(c *api.Camel) { c.Water.Lo = 199 }), api.March{}, span(1, 10)},
		{idle(), with(full(), func(c *api.Camel) { c.Water.Lo = 99 }), api.March{}, span(0, 10)},
		{idle(), with(full(), func(c *api.Camel) { c.Water = span(99, 99) }), api.March{}, span(0, 0)},
		{idle(), with(full(), func(c *api.Camel) { c.Fat = span(45, 149) }), api.March{Hours: 10, Drinks: span(1000, 1000)}, span(0, 2)},
		// What it drinks lasts for ever, or for nobody knows how long.
		{idle(), full(), api.March{Drinks: span(100, 100)}, span(60, 60)},
		{idle(), full(), api.March{Drinks: span(84, 100)}, span(57, 60)},
		{idle(), full(), api.March{Drinks: span(50, 100)}, span(19, 60)},
		{idle(), full(), api.March{Drinks: span(0, 84)}, span(10, 57)},
		// A day on which it lives for sure, after one on which it may have died, does not count.
		{idle(), with(full(), func(c *api.Camel) { c.Water.Lo = 0 }), api.March{Drinks: span(500, 500)}, span(0, 60)},
		{calm, api.Camel{}, api.March{}, span(60, 60)},
	} {
		if n, e := camel.Lasts(x.b, x.c, x.m); n != x.want || e != api.OK {
			t.Error(i, n, e, "want", x.want)
		}
	}
	checkFields(t, march(), marchSpans(), marchNumbers(), api.ErrMarch, func(m api.March) api.Errno {
		_, e := camel.Lasts(breed(), animal(), m)
		return e
	})
}

// P1.6.
func TestHeaviest(t *testing.T) {
	walk := api.March{Hours: 10, Load: 1000000}
	rest := api.March{Load: 1000000}
	for i, x := range []struct {
		b    api.Breed
		c    api.Camel
		l    []api.March
		want int
		e    api.Errno
	}{
		{idle(), full(), nil, 1000000, api.OK},
		{idle(), full(), []api.March{rest}, 1000000, api.OK},
		{idle(), api.Camel{}, nil, 1000000, api.OK},
		{idle(), full(), []api.March{walk}, 500000, api.OK},
		// How fit it is on the first morning; on a day without hours it carries nothing.
		{idle(), with(full(), func(c *api.Camel) { c.Sore = span(0, 400) }), []api.March{walk}, 300000, api.OK},
		{idle(), with(full(), func(c *api.Camel) { c.Sore = span(0, 400) }), []api.March{rest, walk}, 350000, api.OK},
		{idle(), with(full(), func(c *api.Camel) { c.Sore = span(1000, 1000) }), []api.March{walk}, 0, api.OK},
		// 300 of water: 100 by its rest, and 200 by ten hours with 100,000 on it.
		{idle(), with(full(), func(c *api.Camel) { c.Water = span(300, 1000) }), []api.March{walk}, 100000, api.OK},
		{idle(), with(full(), func(c *api.Camel) { c.Water = span(200, 1000) }), []api.March{walk}, 0, api.OK},
		{idle(), with(full(), func(c *api.Camel) { c.Water = span(199, 1000) }), []api.March{walk}, 0, api.ErrDies},
		{idle(), with(full(), func(c *api.Camel) { c.Fat = span(49, 1000) }), []api.March{walk}, 0, api.ErrDies},
		{idle(), api.Camel{}, []api.March{rest}, 0, api.ErrDies},
		// On the second morning it is sorer by 833, so that it can carry 83,500; with one gram more by 834, and 83,000.
		{idle(), full(), []api.March{walk, with(walk, func(m *api.March) { m.Hours = 1 })}, 83300, api.OK},
		{with(idle(), func(b *api.Breed) { b.Toil, b.Burn, b.Rub = span(0, 0), span(0, 0), span(0, 0) }), full(), []api.March{walk}, 500000, api.OK},
		{api.Breed{Full: 1, Fed: 1, Strong: span(1000000, 1000000)}, api.Camel{Water: span(1, 1), Fat: span(1, 1)}, []api.March{walk}, 1000000, api.OK},
		{idle(), full(), slices.Repeat([]api.March{{Drinks: span(100, 100)}}, 60), 1000000, api.OK},
	} {
		if n, e := camel.Heaviest(x.b, x.c, x.l); n != x.want || e != x.e {
			t.Error(i, n, e, "want", x.want, x.e)
		}
	}
	checkFields(t, march(), marchSpans(), marchNumbers(), api.ErrMarch, func(m api.March) api.Errno {
		_, e := camel.Heaviest(api.Breed{Full: 1, Fed: 1}, api.Camel{}, []api.March{{}, m})
		return e
	})
	if n, e := camel.Heaviest(idle(), full(), slices.Repeat([]api.March{{Hours: -1}}, 61)); n != 0 || e != api.ErrMany {
		t.Error(n, e)
	}
}

// P1.7.
func TestThirst(t *testing.T) {
	for i, x := range []struct {
		l    []api.Camel
		want api.Span
		e    api.Errno
	}{
		{nil, span(0, 0), api.OK},
		{[]api.Camel{animal()}, span(30000, 40000), api.OK},
		{[]api.Camel{animal(), {}, {Water: span(100000, 100000)}, animal()}, span(160000, 180000), api.OK},
		{make([]api.Camel, 30), span(3000000, 3000000), api.OK},
		{make([]api.Camel, 31), span(0, 0), api.ErrMany},
		{make([]api.Camel, 30, 40), span(3000000, 3000000), api.OK},
		{slices.Repeat([]api.Camel{{Water: span(0, -1)}}, 31), span(0, 0), api.ErrMany},
		{[]api.Camel{animal(), {Fat: span(0, 50001)}}, span(0, 0), api.ErrCamel},
		{[]api.Camel{{Sore: span(0, 1001)}, animal()}, span(0, 0), api.ErrCamel},
	} {
		if s, e := camel.Thirst(breed(), x.l); s != x.want || e != x.e {
			t.Error(i, s, e)
		}
	}
}
