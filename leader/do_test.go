package leader_test

import (
	"slices"
	"strings"
	"testing"

	"azalai/api"
	"azalai/leader"
)

// halved is a change of the area: it has more halves.
func halved(more ...api.Half) func(c *api.Company) {
	return func(c *api.Company) { c.Area.Halves = slices.Concat(c.Area.Halves, more) }
}

// P10.1: looks narrow the area, and are refused if they lead nowhere.
func TestLooks(t *testing.T) {
	c := chapter()
	marked := wantDone(t, c, "MARK 500 1000 0 1 -1 1", halved(api.Half{A: -1, C: -500}, api.Half{A: 1, B: 1, C: 1500}))
	wantBounds(t, marked, span(500, 1000), exactly(0))
	wantBounds(t, wantDone(t, c, "STAR -3 9", halved(api.Half{B: 1, C: 9}, api.Half{B: -1, C: 3})), span(0, 1000), exactly(0))
	near := wantDone(t, c, "NEAR 700 30 100", halved(api.Half{A: 1, C: 800}, api.Half{A: -1, C: -600}, api.Half{B: 1, C: 130}, api.Half{B: -1, C: 70}))
	wantBounds(t, near, span(600, 800), exactly(0))
	for text, lost := range map[string]bool{
		"MARK 1000 1000 0 1 -1 1": false, "MARK 1001 1000 0 1 -1 1": true, "MARK -1000 1000 0 1 -1 1": false, "MARK -1001 1000 0 1 -1 1": true, "MARK 500 -1000 0 1 -1 1": true,
		"STAR 0 0": false, "STAR 1 9": true, "STAR -9 -1": true, "STAR -10000000 10000000": false,
		"NEAR 1100 0 100": false, "NEAR 1101 0 100": true, "NEAR 0 101 100": true, "NEAR -100 100 100": false, "NEAR 5 5 4": true,
	} {
		if lost {
			wantDoubt(t, c, text, "lost")
		} else {
			after(t, c, text)
		}
	}
	// Directions that turn to the left, a star from the south to the north, and a place that is not less than nothing away.
	for _, text := range []string{"MARK 500 1000 -1 1 0 1", "MARK 500 1000 0 1 0 1", "MARK 500 1000 0 0 0 1", "STAR 9 8", "NEAR 0 0 -1"} {
		wantError(t, c, text, api.ErrBad)
	}
}

// P10.1: the ranges of the numbers of looks.
func TestRangesOfLooks(t *testing.T) {
	for at, x := range [][2]int{{-10000000, 10000000}, {-10000000, 10000000}, {-15, 1000}, {0, 1000}, {-1000, 0}, {-7, 1000}} {
		wantRange(t, chapter(), "MARK 500 1000 2 4 -4 1", at, x[0], x[1])
	}
	for at, x := range [][2]int{{-10000000, 9}, {-3, 10000000}} {
		wantRange(t, chapter(), "STAR -3 9", at, x[0], x[1])
	}
	for at, x := range [][2]int{{-10000000, 10000000}, {-10000000, 10000000}, {0, 10000000}} {
		wantRange(t, chapter(), "NEAR 700 30 100", at, x[0], x[1])
	}
}

// P10.1: at most 40 halves.
func TestFullArea(t *testing.T) {
	for halves, done := range map[int]string{36: "MARK STAR NEAR", 37: "MARK STAR", 38: "MARK STAR", 39: "", 40: ""} {
		c := chapter()
		c.Area.Halves = append(c.Area.Halves, slices.Repeat([]api.Half{{A: 1, C: 1000}}, halves-4)...)
		for _, text := range []string{"MARK 500 1000 0 1 -1 1", "STAR -3 9", "NEAR 700 30 100"} {
			want := api.ErrFull
			if word, _ := command(text); strings.Contains(done, word) {
				want = api.OK
			}
			wantError(t, c, text, want)
		}
	}
	// Also for what would be lost, but not for what is not valid.
	c := crowd()
	c.Log = nil
	wantError(t, c, "STAR 5 9", api.ErrFull)
	wantError(t, c, "STAR 9 5", api.ErrBad)
}

// P10.1: all animals drink, from the well that is named, on this day, at the end of what was drawn.
func TestDrink(t *testing.T) {
	c := busy()
	c.Land.Wells[1] = api.Well{X: -200, Y: 50, Yield: span(100, 200), Room: 200000, Has: span(100000, 100500)}
	c.Area = area(span(0, 800), span(0, 100))
	full := func(well, water int) func(c *api.Company) {
		return func(c *api.Company) {
			c.Draws = append(slices.Clone(c.Draws), draw(well, 5, water))
			c.Camels = slices.Clone(c.Camels)
			for i := range c.Camels {
				c.Camels[i].Water = exactly(100000)
			}
		}
	}
	wantDoubt(t, c, "DRINK 0", "dry")
	next := wantDone(t, c, "DRINK 1", full(1, 20000+20000+30000))
	// 100,600 less 300 and 70,000 are there at the least.
	next.Camels[0].Water, next.Camels[1].Water = span(80000, 90000), span(89700, 100000)
	next = wantDone(t, next, "DRINK 1", full(1, 30300))
	next.Camels[2].Water.Lo = 99999
	wantDoubt(t, next, "DRINK 1", "dry")
	// On the next day something came, but on the day on which it is drawn only what comes on it.
	next = after(t, next, "REST 20 20 0 0")
	next.Camels = slices.Repeat([]api.Camel{{Water: span(99967, 100000), Fat: exactly(50000)}}, 3)
	after(t, next, "DRINK 1")
	next.Camels[0].Water.Lo = 99965
	wantDoubt(t, next, "DRINK 1", "dry")
	wantRange(t, next, "DRINK 0", 0, 0, 1)
}

// P10.1, P10.10: from where a well is not far.
func TestFar(t *testing.T) {
	c := chapter()
	for i, x := range []struct {
		east, north api.Span
		x, y        int
		far         bool
	}{
		{span(0, 1000), exactly(0), 1000, 0, false},
		{span(0, 1000), exactly(0), 1001, 0, true},
		{span(0, 1000), exactly(0), 0, 0, false},
		{span(0, 1000), exactly(0), -1, 0, true},
		{span(0, 1000), exactly(0), 500, 1000, false},
		{span(0, 1000), exactly(0), 500, 1001, true},
		{span(0, 1000), exactly(0), 500, -1000, false},
		{span(0, 1000), exactly(0), 500, -1001, true},
		{span(0, 2000), span(7, 2007), 1000, 1007, false},
		{span(0, 2001), span(7, 2007), 1000, 1007, true},
		{span(0, 2000), span(7, 2008), 1000, 1007, true},
		// From nowhere is it near.
		{exactly(0), exactly(0), 5000, 5000, true},
		{exactly(10000000), exactly(-10000000), 9999000, -9999000, false},
	} {
		c.Area, c.Land.Wells[0].X, c.Land.Wells[0].Y = area(x.east, x.north), x.x, x.y
		said := ""
		if x.far {
			said = "far"
		}
		if _, got, e := leader.Do(c, "DRINK", list(0)); got != said || (e == api.ErrDoubt) != x.far {
			t.Error(i, got, e)
		}
	}
	// A well that is far is not asked how much is in it.
	c = chapter()
	c.Land.Wells[0].X, c.Land.Wells[0].Has.Lo = 5000, 0
	wantDoubt(t, c, "DRINK 0", "far")
}

// P10.1, P10.10: a well that may have too little water: of 40,000 that the animals need at the most. In the morning of the next day 6,000 have come at the least.
func TestDry(t *testing.T) {
	for i, x := range []struct {
		change func(c *api.Company)
		dry    bool
	}{
		{func(c *api.Company) { c.Land.Wells[0].Has.Lo = 34000 }, false},
		{func(c *api.Company) { c.Land.Wells[0].Has.Lo = 33999 }, true},
		{func(c *api.Company) { c.Land.Wells[0].Has.Lo, c.Day = 33999, 6 }, false},
		{func(c *api.Company) { c.Land.Wells[0].Has = exactly(33999) }, true},
		{func(c *api.Company) { c.Land.Wells[0].Room, c.Land.Wells[0].Has = 39999, exactly(39000) }, true},
		{func(c *api.Company) { c.Land.Wells[0].Room, c.Land.Wells[0].Has = 40000, exactly(39000) }, false},
		{func(c *api.Company) { c.Draws = []api.Draw{draw(0, 5, 16000)} }, false},
		{func(c *api.Company) { c.Draws = []api.Draw{draw(0, 5, 16001)} }, true},
		{func(c *api.Company) { c.Draws = []api.Draw{draw(0, 0, 51000)} }, true},
		{func(c *api.Company) { c.Draws, c.Day = []api.Draw{draw(0, 0, 51000)}, 40 }, false},
		{func(c *api.Company) { c.Draws, c.Day = []api.Draw{draw(0, 0, 51000)}, 39 }, true},
		{func(c *api.Company) { c.Camels[1].Water = exactly(64000) }, false},
		{func(c *api.Company) { c.Camels[1].Water.Lo = 64000 }, false},
		{func(c *api.Company) { c.Camels[1].Water = exactly(63999) }, true},
		{func(c *api.Company) { c.Camels[1].Water = span(63999, 100000) }, true},
		{func(c *api.Company) { c.Breed.Full = 108000 }, false},
		{func(c *api.Company) { c.Breed.Full = 108001 }, true},
	} {
		c := chapter()
		x.change(&c)
		if _, said, e := leader.Do(c, "DRINK", list(0)); (said == "dry") != x.dry || (e == api.ErrDoubt) != x.dry {
			t.Error(i, said, e)
		}
	}
}

// P10.1: at most 200 draws, also where the well is far, but not where it is none.
func TestFullDraws(t *testing.T) {
	c := crowd()
	c.Log = nil
	wantError(t, c, "DRINK 1", api.ErrBad)
	wantError(t, c, "DRINK 0", api.ErrFull)
	c.Land.Wells[0].X = 5000
	wantError(t, c, "DRINK 0", api.ErrFull)
	c.Draws = c.Draws[1:]
	wantDoubt(t, c, "DRINK 0", "far")
	c.Land.Wells[0].X = 0
	c.Land.Wells[0].Has, c.Land.Wells[0].Room = exactly(1000000), 1000000
	if next := after(t, c, "DRINK 0"); len(next.Draws) != 200 || next.Draws[199] != draw(0, 5, 160000) {
		t.Error(next.Draws)
	}
}

// P10.1: a jolt hurts the packs of one load, those on top twice, on the same day.
func TestJolt(t *testing.T) {
	c := busy()
	wantDone(t, c, "JOLT 2 70", func(c *api.Company) {
		c.Packs = slices.Clone(c.Packs)
		c.Packs[2].Hurt, c.Packs[3].Hurt, c.Packs[4].Hurt = 120, 70, 140
	})
	wantDone(t, c, "JOLT 0 100000", func(c *api.Company) {
		c.Packs = slices.Clone(c.Packs)
		c.Packs[0].Hurt, c.Packs[1].Hurt = 100000, 100000
	})
	for _, text := range []string{"JOLT 1 7", "JOLT 2 0"} {
		wantDone(t, c, text, func(c *api.Company) {})
	}
	wantRange(t, c, "JOLT 2 70", 0, 0, 2)
	wantRange(t, c, "JOLT 2 70", 1, 0, 100000)
	// Packs are hurt up to 6,000,000.
	c.Packs[2].Hurt, c.Packs[4].Hurt = 5999930, 5999860
	after(t, c, "JOLT 2 70")
	wantError(t, c, "JOLT 2 71", api.ErrFull)
	c.Packs[4].Hurt++
	wantError(t, c, "JOLT 2 70", api.ErrFull)
	wantError(t, c, "JOLT 2 100001", api.ErrBad)
	wantError(t, c, "JOLT 3 70", api.ErrBad)
	wantError(t, c, "JOLT 0 70", api.OK)
	// A skin that is as old as it can be goes on no way, but nothing goes on here.
	c.Packs[5].Days = 100000
	wantError(t, c, "JOLT 0 70", api.OK)
}

// P10.1: packs are moved from one side to the other, and the sides stay in order; those on top stay.
func TestSettle(t *testing.T) {
	c := changed(func(c *api.Company) {
		c.Packs = nil
		for _, mass := range list(10, 20, 30, 45, 7, 3) {
			c.Packs = append(c.Packs, bale(exactly(mass)))
		}
		c.Ties = []api.Tied{tied(list(5), nil, nil), tied(list(0, 1, 2, 3), nil, list(4))}
		c.Bound = 5
	})
	sides := func(load int, left, right []int) func(c *api.Company) {
		return func(c *api.Company) {
			c.Ties = slices.Clone(c.Ties)
			c.Ties[load] = tied(left, right, c.Ties[load].Top)
		}
	}
	next := wantDone(t, c, "SETTLE 1", sides(1, list(1, 2), list(0, 3)))
	wantDone(t, next, "SETTLE 1", func(c *api.Company) {})
	wantDone(t, c, "SETTLE 0", func(c *api.Company) {})
	c.Bound = 4
	wantDoubt(t, c, "SETTLE 1", "uneven")
	wantDone(t, c, "SETTLE 0", func(c *api.Company) {})
	wantRange(t, c, "SETTLE 0", 0, 0, 1)
	// From both sides to both sides: what comes is put in between.
	c.Bound = 0
	for i, mass := range list(20, 30, 0, 7, 30, 20) {
		c.Packs[i].Mass = exactly(mass)
	}
	c.Ties = []api.Tied{tied(list(1, 4), list(0, 5), list(3)), {}}
	next = wantDone(t, c, "SETTLE 0", sides(0, list(0, 4), list(1, 5)))
	wantDone(t, next, "SETTLE 0", func(c *api.Company) {})
	c.Ties = []api.Tied{{}, tied(list(0, 5), list(1, 4), list(3))}
	wantDone(t, c, "SETTLE 1", sides(1, list(1, 5), list(0, 4)))
	// What no packs balance, and what needs none to be moved.
	c.Ties = []api.Tied{tied(list(2), list(0), nil), tied(list(1), list(4), nil)}
	wantDoubt(t, c, "SETTLE 0", "uneven")
	wantDone(t, c, "SETTLE 1", func(c *api.Company) {})
	c.Bound = 20
	wantDone(t, c, "SETTLE 0", func(c *api.Company) {})
}

// P10.1, P10.10: rows that contradict each other, and those that are not valid.
func TestRow(t *testing.T) {
	c := chapter()
	next := wantDone(t, c, "ROW 1 2 3 4 5 6 0 7 1 8 2 9 0 50", func(c *api.Company) {
		c.Rows = []api.Row{{Born: span(1, 2), Bought: span(3, 4), Found: span(5, 6), Died: span(0, 7), Sold: span(1, 8), Strayed: span(2, 9), Count: span(0, 50)}}
	})
	next = wantDone(t, next, "ROW 0 0 0 0 0 0 0 0 0 0 0 0 11 11", func(c *api.Company) {
		c.Rows = append(slices.Clone(c.Rows), api.Row{Count: exactly(11)})
	})
	wantDoubt(t, next, "ROW 0 0 0 0 0 0 0 0 0 0 0 0 12 13", "tally")
	wantDoubt(t, next, "ROW 0 1 0 0 0 0 0 0 0 0 0 0 13 100000", "tally")
	wantDone(t, next, "ROW 0 1 0 0 0 0 0 0 0 0 0 0 12 13", func(c *api.Company) {
		c.Rows = append(slices.Clone(c.Rows), api.Row{Born: span(0, 1), Count: span(12, 13)})
	})
	// 2 animals are there at first.
	wantDoubt(t, c, "ROW 0 9 0 0 0 0 0 0 0 0 0 0 1 1", "tally")
	wantDoubt(t, c, "ROW 0 0 0 0 0 0 3 4 0 0 0 0 0 9", "tally")
	for at := range 14 {
		least, most := 0, 50
		if at%2 == 1 {
			least, most = 5, 100000
		}
		text := strings.Repeat("5 50 ", 7)
		wantRange(t, c, "ROW "+text, at, least, most)
	}
	for at := range 7 {
		args := make([]int, 14)
		args[2*at] = 1
		if next, said, e := leader.Do(c, "ROW", args); e != api.ErrBad || said != "" || !isZero(next) {
			t.Error(at, said, e)
		}
	}
}

// P10.1: at most 40 rows, whatever is in another one.
func TestFullRows(t *testing.T) {
	c := crowd()
	c.Log = nil
	wantError(t, c, "ROW 0 0 0 0 0 0 0 0 0 0 0 0 2 2", api.ErrFull)
	wantError(t, c, "ROW 1 0 0 0 0 0 0 0 0 0 0 0 2 2", api.ErrFull)
	wantError(t, c, "ROW 0 0 0 0 0 0 0 0 0 0 0 0 3 3", api.ErrFull)
	c.Rows = c.Rows[1:]
	wantDoubt(t, c, "ROW 0 0 0 0 0 0 0 0 0 0 0 0 3 3", "tally")
	wantError(t, c, "ROW 1 0 0 0 0 0 0 0 0 0 0 0 2 2", api.ErrBad)
	if next := after(t, c, "ROW 0 0 0 0 0 0 0 0 0 0 0 0 2 2"); len(next.Rows) != 40 {
		t.Error(next.Rows)
	}
}

// P10.1: letters, in the order in which they come, also one that is there already.
func TestLetter(t *testing.T) {
	c := busy()
	heard := func(l api.Letter) func(c *api.Company) {
		return func(c *api.Company) { c.Letters = append(slices.Clone(c.Letters), l) }
	}
	for text, l := range map[string]api.Letter{
		"LETTER 8 1 1 0 0 0 30 1":          {Id: 8, Day: 1, Kind: api.LetterSold, Rials: 30, Mouth: true},
		"LETTER 0 100000 2 0 0 0 0 0":      {Day: 100000, Kind: api.LetterSpent},
		"LETTER 9 7 3 7 0 6 0 0":           {Id: 9, Day: 7, Kind: api.LetterLent, Who: 7, Animal: 6},
		"LETTER 9 7 6 0 5 4 99 1":          {Id: 9, Day: 7, Kind: api.LetterCalf, Other: 5, Animal: 4, Rials: 99, Mouth: true},
		"LETTER 9999 0 7 9 7 0 10000000 0": {Id: 9999, Kind: api.LetterOwes, Who: 9, Other: 7, Rials: 10000000},
		"LETTER 1 5 1 0 0 0 30 0":          sold(1, 5, 30),
		"LETTER 2 3 3 9 0 4 0 1":           c.Letters[1],
	} {
		wantDone(t, c, text, heard(l))
	}
	// One with the same Id that differs in any number.
	for _, text := range []string{
		"LETTER 1 6 1 0 0 0 30 0", "LETTER 1 5 2 0 0 0 30 0", "LETTER 1 5 1 0 0 0 31 0", "LETTER 1 5 1 0 0 0 30 1", "LETTER 2 3 3 9 0 4 0 0", "LETTER 2 3 3 7 0 4 0 1", "LETTER 2 3 3 9 0 5 0 1", "LETTER 2 3 4 0 0 4 0 1",
	} {
		wantDoubt(t, c, text, "two")
	}
	for _, text := range []string{
		"LETTER 3 3 3 8 0 4 0 0", "LETTER 3 3 7 9 9 0 1 0", "LETTER 3 5 1 1 0 0 30 0", "LETTER 3 5 1 0 1 0 30 0", "LETTER 3 5 1 0 0 1 30 0", "LETTER 3 3 3 9 0 4 1 0",
		"LETTER 3 5 0 0 0 0 30 0", "LETTER 3 5 9 0 0 0 30 0", "LETTER 3 5 255 0 0 0 30 0", "LETTER 3 5 256 0 0 0 30 0", "LETTER 3 5 257 0 0 0 30 0", "LETTER 3 5 -255 0 0 0 30 0", "LETTER 3 5 4294967297 0 0 0 30 0",
		"LETTER 3 5 1 0 0 0 30 2", "LETTER 3 5 1 0 0 0 30 -1", "LETTER 3 5 1 0 0 0 30 256",
		// Also if another one has its Id.
		"LETTER 1 5 257 0 0 0 30 0", "LETTER 1 5 1 1 0 0 30 0", "LETTER 1 5 1 0 0 0 30 2",
	} {
		wantError(t, c, text, api.ErrBad)
	}
	for at, x := range [][2]int{{0, 9999}, {0, 100000}, {1, 2}, {0, 0}, {0, 0}, {0, 0}, {0, 10000000}, {0, 1}} {
		wantRange(t, chapter(), "LETTER 3 5 1 0 0 0 30 0", at, x[0], x[1])
	}
}

// P10.1: at most 100 letters, however often one is among them, and whatever is in another one.
func TestFullLetters(t *testing.T) {
	c := crowd()
	c.Log = nil
	for _, text := range []string{"LETTER 1 5 1 0 0 0 30 0", "LETTER 1 5 1 0 0 0 31 0", "LETTER 1 5 999 0 0 0 31 0"} {
		wantError(t, c, text, api.ErrFull)
	}
	c.Letters = c.Letters[1:]
	wantDoubt(t, c, "LETTER 1 5 1 0 0 0 31 0", "two")
	wantError(t, c, "LETTER 1 5 999 0 0 0 31 0", api.ErrBad)
	if next := after(t, c, "LETTER 1 5 1 0 0 0 30 0"); len(next.Letters) != 100 {
		t.Error(next.Letters)
	}
}

// valids are commands that the busy company does, but for their numbers.
var valids = []string{
	"MARCH 10 0 100 0 0 20 20 0 0", "REST 20 20 0 0", "MARK 500 1000 0 1 -1 1", "STAR 0 9", "NEAR 400 0 500", "DRINK 1", "JOLT 0 5", "SETTLE 0",
	"ROW 0 0 0 0 0 0 0 0 0 0 0 0 3 3", "LETTER 5 5 1 0 0 0 30 0",
}

// P10.1: words, and how many numbers each of them has.
func TestWords(t *testing.T) {
	c := busy()
	for _, text := range valids {
		word, args := command(text)
		if _, said, e := leader.Do(c, word, args); e != api.OK && e != api.ErrDoubt {
			t.Error(text, said, e)
		}
		for n := range 20 {
			if n == len(args) {
				continue
			}
			wantRefused(t, c, word+strings.Repeat(" 1", n), "", api.ErrWord)
		}
		for _, other := range []string{"", " ", strings.ToLower(word), word + " ", " " + word, word + "\n", word + "\x00", word[1:], word[:len(word)-1], word + "S", string(word[0])} {
			if next, said, e := leader.Do(c, other, args); e != api.ErrWord || said != "" || !isZero(next) {
				t.Errorf("%q: %v %q", other, e, said)
			}
		}
		// A number that is none is no other error, wherever it is.
		for at := range args {
			for n, ok := range around(-1000000000000, 1000000000000) {
				next, said, e := leader.Do(c, word, put(args, at, n))
				if (e == api.ErrArg) != !ok || e == api.ErrArg && (said != "" || !isZero(next)) {
					t.Error(word, at, n, e)
				}
			}
		}
	}
	for _, word := range []string{"GO", "R", "L", "D", "E", "TELL", "MÄRSCH", "\xff"} {
		wantRefused(t, c, word, "", api.ErrWord)
	}
}

// P10.1: at most 200 entries in the log, whatever the command would do; but it has to be one.
func TestFullLog(t *testing.T) {
	c := busy()
	c.Log = slices.Repeat(c.Log[:1], 200)
	for _, text := range append(valids, "STAR 9 5", "STAR 700 800", "MARCH 0 0 0 0 0 0 0 0 0", "DRINK 9", "LETTER 1 1 1 1 1 1 1 1") {
		wantError(t, c, text, api.ErrFull)
		word, args := command(text)
		wantError(t, c, word, api.ErrWord)
		wantRefused(t, c, word+strings.Repeat(" 1000000000001", len(args)), "", api.ErrArg)
	}
	c.Log = c.Log[1:]
	next := after(t, c, "STAR 0 9")
	if len(next.Log) != 200 || shown(next.Log[199]) != shown(done(5, "STAR 0 9")) || shown(next.Log[:199]) != shown(c.Log) {
		t.Error(next.Log)
	}
}
