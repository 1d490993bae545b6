package leader_test

import (
	"slices"
	"testing"

	"azalai/api"
	"azalai/leader"
)

// errorOf returns no error for what is valid, and otherwise that of a number that does not fit, or may be in no command.
func errorOf(valid bool, n int) api.Errno {
	switch {
	case n < -1000000000000 || n > 1000000000000:
		return api.ErrArg
	case !valid:
		return api.ErrBad
	}
	return api.OK
}

// put returns some numbers, of which one is another one.
func put(numbers []int, at, n int) []int {
	numbers = slices.Clone(numbers)
	numbers[at] = n
	return numbers
}

// wantRange checks from what to what one of the numbers of a command may be; what is valid may be doubted.
func wantRange(t *testing.T, c api.Company, text string, at, least, most int) {
	t.Helper()
	word, args := command(text)
	for n, ok := range around(least, most) {
		next, said, e := leader.Do(c, word, put(args, at, n))
		if want := errorOf(ok, n); e != want && (want != api.OK || e != api.ErrDoubt) {
			t.Error(text, at, n, e, said, "want", want)
		}
		if isZero(next) != (e != api.OK) {
			t.Error(text, at, n, e, next)
		}
	}
}

// worn is a company whose first animal has a skin on its back, and loses more with it.
func worn() api.Company {
	return changed(func(c *api.Company) {
		c.Breed.Heat, c.Breed.Toil, c.Breed.Burn, c.Breed.Rub, c.Breed.Milk, c.Breed.Heal = span(10, 20), span(100, 200), span(10, 20), span(100, 200), span(1000, 1500), 50
		c.Packs = []api.Pack{{Kind: api.PackSkin, Mass: exactly(100000), Leak: span(1000, 2000), Days: 10}, bale(exactly(5))}
		c.Ties[0] = tied(nil, nil, list(0))
	})
}

// P10.1: a march, with loads that are not known exactly: the least and the greatest of what is so with either end.
func TestMarch(t *testing.T) {
	c := worn()
	// The skin weighs 80,000 to 90,000 in the morning.
	after := func(c *api.Company) {
		c.Day = 6
		c.Area = area(span(-100, 1020), span(-7, 300))
		c.Camels = []api.Camel{
			{Water: span(80000-5000-400-3800, 90000-5000-100-1800), Fat: span(50000-380+100, 50000), Sore: span(80, 180)},
			{Water: span(80000-5000-400-2000, 90000-5000-100-1000), Fat: span(50000-200+100, 50000)},
		}
		c.Packs = slices.Clone(c.Packs)
		c.Packs[0].Days, c.Packs[1].Days = 11, 1
	}
	next := wantDone(t, c, "MARCH 10 -100 20 -7 300 30 40 100 300", after)
	// On the next morning it weighs 78,000 to 89,000.
	wantDone(t, next, "MARCH 5 0 0 0 0 20 20 0 0", func(c *api.Company) {
		c.Day = 7
		c.Camels = []api.Camel{
			{Water: span(70800-5000-1890, 83100-5000-890), Fat: span(49720-189, 50000-89), Sore: span(80+39, 180+89)},
			{Water: span(72600-5000-1000, 83900-5000-500), Fat: span(49900-100, 50000-50)},
		}
		c.Packs = slices.Clone(c.Packs)
		c.Packs[0].Days, c.Packs[1].Days = 12, 2
	})
	// Who gives milk loses more.
	c.Camels[1].Milks = true
	wantDone(t, c, "MARCH 10 -100 20 -7 300 30 40 100 300", func(c *api.Company) {
		after(c)
		c.Camels[1].Milks = true
		c.Camels[1].Water = span(72600-1500, 83900-1000)
	})
}

// P10.1: a day of rest, on which no load counts, and the caravan stays where it is.
func TestRest(t *testing.T) {
	c := worn()
	c.Camels[0].Sore, c.Camels[1].Sore = span(100, 200), span(0, 70)
	c.Camels[1].Fat = span(40000, 49900)
	c.Area.Halves = append(c.Area.Halves, api.Half{A: 1, B: 1, C: 100000000000}, api.Half{A: 3, B: -2, C: 5000})
	after := func(c *api.Company) {
		c.Day = 6
		c.Camels = []api.Camel{
			{Water: span(80000-5000-400, 90000-5000-100), Fat: exactly(50000), Sore: span(50, 150)},
			{Water: span(80000-5000-400, 90000-5000-100), Fat: span(40100, 50000), Sore: span(0, 20)},
		}
		c.Packs = slices.Clone(c.Packs)
		for i := range c.Packs {
			c.Packs[i].Days++
		}
	}
	wantDone(t, c, "REST 30 40 100 300", after)
	// Not even one that no animal could carry, or that is heavier than that of a day may be.
	for range 20 {
		c.Packs = append(c.Packs, bale(exactly(1000000)))
	}
	c.Ties[0], c.Ties[1] = tied(list(2, 3, 4), nil, list(5, 6, 7, 8, 9, 10, 11)), tied(nil, list(12, 13), nil)
	wantDone(t, c, "REST 30 40 100 300", after)
	wantDoubt(t, c, "MARCH 1 0 0 0 0 20 20 0 0", "weak 0")
	// It goes over the end of what a day's water is.
	c = worn()
	c.Camels[0].Water = span(4999, 9000)
	wantDoubt(t, c, "REST 20 20 0 0", "dies 0")
}

// P10.1: the ranges of the numbers of a march and of a rest.
func TestDays(t *testing.T) {
	for at, x := range [][2]int{{1, 24}, {-100000, 5}, {-5, 100000}, {-100000, 6}, {-6, 100000}, {0, 30}, {20, 60}, {0, 9}, {1, 1000000}} {
		wantRange(t, chapter(), "MARCH 10 -5 5 -6 6 20 30 1 9", at, x[0], x[1])
	}
	for at, x := range [][2]int{{0, 30}, {20, 60}, {0, 9}, {1, 1000000}} {
		wantRange(t, chapter(), "REST 20 30 1 9", at, x[0], x[1])
	}
	// The Load does not count: it is no other error than it has to be.
	c := chapter()
	c.Packs = slices.Repeat([]api.Pack{bale(exactly(1000000))}, 2)
	wantError(t, c, "MARCH 0 0 0 0 0 20 20 0 0", api.ErrBad)
	wantDoubt(t, c, "MARCH 1 0 0 0 0 20 20 0 0", "weak 0")
}

// P10.1: the last day, and the last day of a pack.
func TestLastDay(t *testing.T) {
	for _, text := range []string{"MARCH 1 0 0 0 0 20 20 0 0", "REST 20 20 0 0"} {
		c := chapter()
		c.Day = 99998
		c.Packs[1].Days = 99999
		next := after(t, c, text)
		if next.Day != 99999 || next.Packs[1].Days != 100000 || next.Log[0].Day != 99999 {
			t.Error(text, next.Day, next.Packs, next.Log)
		}
		wantError(t, next, text, api.ErrFull)
		next.Packs[1].Days = 5
		wantError(t, next, text, api.ErrFull)
		next.Day, next.Packs[1].Days = 99998, 100000
		next.Log = nil
		wantError(t, next, text, api.ErrFull)
		// Also one that is tied to no animal.
		next.Ties[0] = api.Tied{}
		wantError(t, next, text, api.ErrFull)
		next.Packs[1].Days = 99999
		wantError(t, next, text, api.OK)
	}
}

// P10.1, P10.10: an animal that is not ready for sure, whatever it is by which it is not: the first one is named.
func TestWeak(t *testing.T) {
	march := "MARCH 10 0 0 0 0 20 20 0 0"
	three := func(change func(c *api.Company)) api.Company {
		return changed(func(c *api.Company) {
			c.Camels = append(c.Camels, c.Camels[0])
			c.Packs = append(c.Packs, bale(exactly(60000)), bale(exactly(60000)), bale(exactly(1)))
			c.Ties = append(c.Ties, tied(list(2), list(3), nil))
			change(c)
		})
	}
	for i, x := range []struct {
		change func(c *api.Company)
		said   string
	}{
		{func(c *api.Company) {}, ""},
		{func(c *api.Company) { c.Ties[2].Left = list(2, 4) }, "weak 2"},
		{func(c *api.Company) { c.Ties[2].Left, c.Bound = list(2, 4), 1 }, ""},
		{func(c *api.Company) { c.Ties[1].Right = list(4) }, "weak 1"},
		{func(c *api.Company) { c.Ties[1].Top = list(4) }, ""},
		{func(c *api.Company) { c.Packs[0].Mass.Lo = 59999 }, "weak 0"},
		{func(c *api.Company) { c.Packs[0].Mass.Lo, c.Bound = 59999, 1 }, ""},
		{func(c *api.Company) { c.Packs[2].Mass.Lo, c.Packs[1].Mass.Lo = 59999, 59999 }, "weak 0"},
		// An animal carries 200,000 at the most, with 800 of 1,000 by half of its water.
		{func(c *api.Company) { c.Camels[2].Water.Lo = 30000 }, ""},
		{func(c *api.Company) { c.Camels[2].Water.Lo = 29999 }, "weak 2"},
		{func(c *api.Company) { c.Camels[2].Sore.Hi = 400 }, ""},
		{func(c *api.Company) { c.Camels[2].Sore.Hi = 401 }, "weak 2"},
		{func(c *api.Company) { c.Breed.Strong.Lo = 120000 }, ""},
		{func(c *api.Company) { c.Breed.Strong.Lo = 119999 }, "weak 0"},
		{func(c *api.Company) { c.Breed.Strong.Lo, c.Ties[0] = 119999, api.Tied{} }, "weak 2"},
		// It is weak before another one dies, and the one that may die is named before the one that does.
		{func(c *api.Company) { c.Ties[0], c.Camels[0].Water, c.Camels[2].Sore.Hi = api.Tied{}, exactly(0), 401 }, "weak 2"},
		{func(c *api.Company) { c.Ties[0], c.Camels[0].Water = api.Tied{}, exactly(0) }, "dies 0"},
		{func(c *api.Company) {
			c.Camels[1].Water.Lo, c.Ties[0], c.Ties[2], c.Camels[2].Water = 4999, api.Tied{}, api.Tied{}, exactly(0)
		}, "dies 1"},
	} {
		c := three(x.change)
		if x.said == "" {
			after(t, c, march)
		} else {
			wantDoubt(t, c, march, x.said)
		}
		if _, said, e := leader.Do(c, "MARCH", list(10, 0, 0, 0, 0, 20, 20, 0, 0)); said != x.said {
			t.Error(i, said, e)
		}
		// Nobody has to be ready for a rest.
		rest := x.said
		if rest != "" && rest[:4] == "weak" {
			rest = ""
			if c.Camels[0].Water.Lo == 0 {
				rest = "dies 0"
			}
		}
		if _, said, e := leader.Do(c, "REST", list(20, 20, 0, 0)); said != rest {
			t.Error(i, said, e)
		}
	}
}

// P10.1: whether an animal is ready is asked in the morning, with packs that are as they are then.
func TestReadyInTheMorning(t *testing.T) {
	c := changed(func(c *api.Company) {
		c.Breed.Strong = exactly(60000)
		c.Packs = []api.Pack{{Kind: api.PackSkin, Mass: exactly(100000), Leak: exactly(10000), Days: 3}}
		c.Ties[0] = tied(nil, nil, list(0))
	})
	wantDoubt(t, c, "MARCH 10 0 0 0 0 20 20 0 0", "weak 0")
	c = after(t, c, "REST 20 20 0 0", "MARCH 10 0 0 0 0 20 20 0 0")
	// 20,000 on both sides, of which one leaks: it is uneven by as much as a day's leak in the evening only.
	c = changed(func(c *api.Company) {
		c.Packs = []api.Pack{{Kind: api.PackSkin, Mass: exactly(20000), Leak: exactly(100)}, bale(exactly(20000))}
	})
	next := after(t, c, "MARCH 10 0 0 0 0 20 20 0 0")
	wantDoubt(t, next, "MARCH 10 0 0 0 0 20 20 0 0", "weak 0")
}

// P10.1, P10.10: an animal that may die, of thirst or of hunger; on a march the greatest load counts.
func TestDies(t *testing.T) {
	for i, x := range []struct {
		change func(c *api.Company)
		said   string
	}{
		// With 90,000 it loses 9,200 of water at the most, and 380 of fat; without a load 7,400 and 200.
		{func(c *api.Company) {}, ""},
		{func(c *api.Company) { c.Camels[0].Water.Lo = 9200 }, ""},
		{func(c *api.Company) { c.Camels[0].Water.Lo = 9199 }, "dies 0"},
		{func(c *api.Company) { c.Camels[0].Water = exactly(9199) }, "dies 0"},
		// For sure, as it loses 7,000 at the least.
		{func(c *api.Company) { c.Camels[0].Water = exactly(6999) }, "dies 0"},
		{func(c *api.Company) { c.Camels[0].Fat.Lo = 380 }, ""},
		{func(c *api.Company) { c.Camels[0].Fat.Lo = 379 }, "dies 0"},
		{func(c *api.Company) { c.Camels[1].Water.Lo = 7400 }, ""},
		{func(c *api.Company) { c.Camels[1].Water.Lo = 7399 }, "dies 1"},
		{func(c *api.Company) { c.Camels[1].Fat.Lo = 200 }, ""},
		{func(c *api.Company) { c.Camels[1].Fat.Lo = 199 }, "dies 1"},
		{func(c *api.Company) { c.Camels[1].Fat = exactly(0) }, "dies 1"},
		{func(c *api.Company) { c.Camels[1].Water = exactly(0) }, "dies 1"},
		{func(c *api.Company) { c.Camels[1].Milks, c.Camels[1].Water.Lo = true, 8900 }, ""},
		{func(c *api.Company) { c.Camels[1].Milks, c.Camels[1].Water.Lo = true, 8899 }, "dies 1"},
	} {
		c := worn()
		c.Breed.Strong, c.Breed.Fed = exactly(1000000), 1000
		c.Camels[0].Fat, c.Camels[1].Fat = exactly(1000), exactly(1000)
		x.change(&c)
		if _, said, e := leader.Do(c, "MARCH", list(10, 0, 0, 0, 0, 30, 40, 0, 0)); said != x.said || (e == api.ErrDoubt) != (said != "") {
			t.Error(i, said, e)
		}
	}
	// Without hours it loses 5,400 at the most, and no fat.
	for water, said := range map[int]string{5400: "", 5399: "dies 1", 5099: "dies 1", 0: "dies 1"} {
		c := worn()
		c.Camels[1].Water, c.Camels[1].Fat = exactly(water), exactly(0)
		if _, got, e := leader.Do(c, "REST", list(30, 40, 0, 0)); got != said || (e == api.ErrDoubt) != (said != "") {
			t.Error(water, got, e)
		}
	}
}

// P10.1: an area that would be too far away.
func TestMarchTooFar(t *testing.T) {
	c := chapter()
	c.Area.Halves = append(c.Area.Halves, api.Half{A: 1000, B: 0, C: 100000000000 - 20000})
	wantError(t, c, "MARCH 10 0 20 0 0 20 20 0 0", api.OK)
	wantError(t, c, "MARCH 10 0 21 0 0 20 20 0 0", api.ErrFull)
	wantError(t, c, "MARCH 10 0 21 0 100001 20 20 0 0", api.ErrBad)
	wantError(t, c, "REST 20 20 0 0", api.OK)
	// All that is doubted comes first.
	c.Camels[1].Water.Lo = 4999
	wantDoubt(t, c, "MARCH 10 0 21 0 0 20 20 0 0", "dies 1")
	c.Packs[0].Mass.Lo = 0
	wantDoubt(t, c, "MARCH 10 0 21 0 0 20 20 0 0", "weak 0")
}
