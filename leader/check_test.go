package leader_test

import (
	"slices"
	"testing"

	"azalai/api"
	"azalai/leader"
)

// busy is a valid company with something in each of its lists.
func busy() api.Company {
	c := chapter()
	c.Land.Wells = append(c.Land.Wells, api.Well{X: 3000, Depth: 20, Yield: span(0, 10), Room: 5000, Has: span(0, 600), Owner: 3})
	c.Land.Legs = []api.Leg{{From: 0, To: 1, Long: span(2500, 2600), Gates: []api.Gate{{Shuts: exactly(50)}, {Opens: exactly(60), Shuts: exactly(70)}}}}
	c.Draws = []api.Draw{draw(1, 2, 100), draw(0, 4, 1000), draw(1, 5, 200)}
	c.Area.Halves = append(c.Area.Halves, api.Half{A: 1, B: 1, C: 900})
	c.Camels = append(c.Camels, api.Camel{Water: span(70000, 75000), Fat: span(40000, 45000), Sore: span(0, 100), Milks: true})
	c.Packs = append(c.Packs,
		api.Pack{Kind: api.PackSlab, Mass: span(40000, 41000), Hard: span(100, 200), Crumbs: span(50, 100), Hurt: 50, Days: 3},
		api.Pack{Kind: api.PackSlab, Mass: span(40000, 41000), Hard: span(100, 200), Crumbs: span(50, 100)},
		api.Pack{Kind: api.PackSkin, Mass: exactly(30000), Leak: span(500, 600), Days: 4}, bale(exactly(1000)))
	c.Ties = append(c.Ties, tied(list(2), list(3), list(4)))
	c.Bound = 9000
	c.Rows = []api.Row{{Born: exactly(1), Count: span(3, 4)}, {Sold: span(0, 1), Count: span(2, 3)}}
	c.Pact = api.Pact{Partners: []api.Partner{{Id: 7, Put: 100, Share: 600}, {Id: 9, Share: 400}}, Calf: 500, Hire: 2, Ends: 100}
	c.Letters = letters(sold(1, 5, 30), api.Letter{Id: 2, Day: 3, Kind: api.LetterLent, Who: 9, Animal: 4, Mouth: true})
	c.Log = []api.Entry{done(3, "REST 20 20 0 0"), done(3, "DRINK 1"), done(5, "MARCH 10 0 100 0 0 20 20 0 0")}
	return c
}

// crowd is a valid company with as much as there can be of all that is not numbered by its land.
func crowd() api.Company {
	c := chapter()
	c.Camels, c.Ties = slices.Repeat(c.Camels[:1], 8), make([]api.Tied, 8)
	c.Packs = slices.Repeat(c.Packs[:1], 30)
	c.Draws = slices.Repeat([]api.Draw{draw(0, 5, 0)}, 200)
	c.Area.Halves = append(c.Area.Halves, slices.Repeat([]api.Half{{A: 1, C: 1000}}, 36)...)
	c.Rows = slices.Repeat([]api.Row{{Count: exactly(2)}}, 40)
	c.Letters = slices.Repeat(letters(sold(1, 5, 30)), 100)
	c.Log = slices.Repeat([]api.Entry{done(5, "DRINK 0")}, 200)
	return c
}

// wantValid checks that a company is valid, or that all functions return ErrCompany and zero values, also with other arguments that are not valid.
func wantValid(t *testing.T, name any, valid bool, c api.Company) {
	t.Helper()
	if e := leader.Check(c); (e == api.OK) != valid || !valid && e != api.ErrCompany {
		t.Error(name, e, "want", valid)
	}
	if valid {
		return
	}
	for _, x := range []call{{c: c}, {c: c, word: "STAR", args: list(0, 0)}, {c: c, word: "GO", args: list(1 << 62), log: []api.Entry{{}}, b: api.Book{Rows: make([]api.Row, 301)}}} {
		got := x.outcomes()
		for _, function := range ofCompanies {
			if got[function].e != api.ErrCompany || got[function].at != 0 || got[function].said != "" || !got[function].zero {
				t.Error(name, function, got[function])
			}
		}
	}
}

// P10.1: companies that are valid.
func TestCheckValid(t *testing.T) {
	wantValid(t, "chapter", true, chapter())
	wantValid(t, "busy", true, busy())
	wantValid(t, "crowd", true, crowd())
	wantValid(t, "zero", false, api.Company{})
}

// P10.1: the ranges of the numbers.
func TestCheckNumbers(t *testing.T) {
	for i, x := range []struct {
		least, most int
		set         func(c *api.Company, n int)
	}{
		{0, 99999, func(c *api.Company, n int) { c.Day = n }},
		{0, 1000000000, func(c *api.Company, n int) { c.Bound = n }},
		{0, 200, func(c *api.Company, n int) { c.Land.Wells[0].Depth = n }},
		{0, 5, func(c *api.Company, n int) { c.Draws = []api.Draw{draw(0, n, 0)} }},
		{0, 0, func(c *api.Company, n int) { c.Draws = []api.Draw{draw(n, 0, 0)} }},
		{0, 62000, func(c *api.Company, n int) { c.Draws = []api.Draw{draw(0, 0, n)} }},
		{0, 72000, func(c *api.Company, n int) { c.Draws = []api.Draw{draw(0, 5, n)} }},
		{0, 100000000000, func(c *api.Company, n int) { c.Area.Halves[0].C = n }},
		{1, 1000000, func(c *api.Company, n int) { c.Breed.Full, c.Camels = n, []api.Camel{{}, {}} }},
		{0, 1000, func(c *api.Company, n int) { c.Camels[1].Sore = span(0, n) }},
		{0, 80000, func(c *api.Company, n int) { c.Camels[0].Water = span(n, 80000) }},
		{0, 1000000, func(c *api.Company, n int) { c.Packs[1].Mass = exactly(n) }},
		{0, 100000, func(c *api.Company, n int) { c.Packs[1].Days = n }},
		{0, 100000, func(c *api.Company, n int) { c.First = exactly(n) }},
		{0, 100000, func(c *api.Company, n int) { c.Pact.Ends = n }},
		{0, 5, func(c *api.Company, n int) { c.Log = []api.Entry{done(n, "DRINK 0")} }},
		{3, 5, func(c *api.Company, n int) { c.Log = []api.Entry{done(3, "DRINK 0"), done(n, "DRINK 0")} }},
		{0, 3, func(c *api.Company, n int) { c.Log = []api.Entry{done(n, "DRINK 0"), done(3, "DRINK 0")} }},
		{-1000000000000, 1000000000000, func(c *api.Company, n int) { c.Log = []api.Entry{entry(5, "DRINK", n)} }},
		{-1000000000000, 1000000000000, func(c *api.Company, n int) { c.Log = []api.Entry{entry(5, "REST", 0, 0, 0, n)} }},
		{0, 9999, func(c *api.Company, n int) { c.Letters = letters(sold(n, 1, 1)) }},
	} {
		for n, ok := range around(x.least, x.most) {
			wantValid(t, list(i, n), ok, changed(func(c *api.Company) { x.set(c, n) }))
		}
	}
}

// P10.1: how many there are of all that is in lists.
func TestCheckCounts(t *testing.T) {
	for i, x := range []struct {
		valid  bool
		change func(c *api.Company)
	}{
		{true, func(c *api.Company) {}},
		{false, func(c *api.Company) { c.Land.Wells = nil }},
		{false, func(c *api.Company) { c.Land.Wells = slices.Repeat(c.Land.Wells, 13) }},
		{true, func(c *api.Company) { c.Land.Wells = slices.Repeat(c.Land.Wells, 12) }},
		{false, func(c *api.Company) { c.Draws = append(c.Draws, draw(0, 5, 0)) }},
		{false, func(c *api.Company) { c.Area.Halves = append(c.Area.Halves, api.Half{A: 1, C: 1000}) }},
		{false, func(c *api.Company) { c.Area.Halves = c.Area.Halves[:3] }},
		{false, func(c *api.Company) { c.Area.Halves = nil }},
		{false, func(c *api.Company) { c.Camels, c.Ties = nil, nil }},
		{true, func(c *api.Company) { c.Camels, c.Ties = c.Camels[:1], c.Ties[:1] }},
		{false, func(c *api.Company) { c.Camels = append(c.Camels, c.Camels[0]) }},
		{false, func(c *api.Company) { c.Camels, c.Ties = append(c.Camels, c.Camels[0]), append(c.Ties, api.Tied{}) }},
		{false, func(c *api.Company) { c.Camels = c.Camels[:7] }},
		{false, func(c *api.Company) { c.Ties = c.Ties[:7] }},
		{false, func(c *api.Company) { c.Ties = nil }},
		{false, func(c *api.Company) { c.Packs = append(c.Packs, bale(exactly(1))) }},
		{true, func(c *api.Company) { c.Packs = nil }},
		{false, func(c *api.Company) { c.Rows = append(c.Rows, c.Rows[0]) }},
		{false, func(c *api.Company) { c.Letters = append(c.Letters, c.Letters[0]) }},
		{false, func(c *api.Company) { c.Log = append(c.Log, c.Log[0]) }},
		{false, func(c *api.Company) { c.Pact.Partners = nil }},
	} {
		c := crowd()
		x.change(&c)
		wantValid(t, i, x.valid, c)
	}
}

// P10.1: what the layers say of the parts.
func TestCheckParts(t *testing.T) {
	for i, change := range []func(c *api.Company){
		func(c *api.Company) { c.Land.Legs[0].To = 0 },
		func(c *api.Company) { c.Land.Legs[0].Gates[0].Shuts.Hi = 60 },
		func(c *api.Company) { c.Land.Wells[1].Has.Hi = 5001 },
		// What is drawn from the second well only is not there; of the first one there is enough.
		func(c *api.Company) { c.Draws[0].Water = 631 },
		func(c *api.Company) { c.Draws[2].Water = 561 },
		func(c *api.Company) { c.Draws[1].Water = 70001 },
		func(c *api.Company) { c.Draws[1].Day = 1 },
		func(c *api.Company) { c.Draws[2].Day = 6 },
		func(c *api.Company) { c.Draws[2].Well = 2 },
		// No place is in the area.
		func(c *api.Company) { c.Area.Halves[4].C = -1 },
		func(c *api.Company) { c.Area.Halves[4] = api.Half{C: 1} },
		func(c *api.Company) { c.Area.Halves[0].A = 2 },
		func(c *api.Company) { c.Breed.Fed = 0 },
		func(c *api.Company) { c.Breed.Strong = span(2, 1) },
		func(c *api.Company) { c.Camels[0].Water.Hi = 100001 },
		func(c *api.Company) { c.Camels[2].Fat.Lo = 45001 },
		func(c *api.Company) { c.Packs[5].Kind = 4 },
		func(c *api.Company) { c.Packs[4].Hard = exactly(1) },
		func(c *api.Company) { c.Ties[1] = tied(list(4), nil, nil) },
		func(c *api.Company) { c.Ties[2].Top = list(6) },
		func(c *api.Company) { c.Ties[2].Top = list(4, 4) },
		func(c *api.Company) { c.First = span(2, 1) },
		func(c *api.Company) { c.First = span(4, 9) },
		func(c *api.Company) { c.Rows[1].Count.Lo = 4 },
		func(c *api.Company) { c.Rows[0].Count = exactly(4) },
		func(c *api.Company) { c.Rows[1].Died.Lo = -1 },
		func(c *api.Company) { c.Pact.Partners[1].Share = 401 },
		func(c *api.Company) { c.Pact.Partners[1].Id = 8 },
		func(c *api.Company) { c.Letters[1].Kind = 9 },
		func(c *api.Company) { c.Letters[1].Id = 1 },
		func(c *api.Company) { c.Letters[0].Who = 7 },
		func(c *api.Company) { c.Log[1].Word = "drink" },
		func(c *api.Company) { c.Log[1].Word = "DRINK " },
		func(c *api.Company) { c.Log[1].Word = "" },
		func(c *api.Company) { c.Log[1].Word = "R" },
		func(c *api.Company) { c.Log[1].Args = list(1, 1) },
		func(c *api.Company) { c.Log[1].Args = nil },
		func(c *api.Company) { c.Log[2].Args = c.Log[2].Args[:8] },
		func(c *api.Company) { c.Log[1].Day = 2 },
		func(c *api.Company) { c.Log[1].Day = 6 },
	} {
		c := busy()
		change(&c)
		wantValid(t, i, false, c)
	}
}

// P10.1: what the company's other parts leave open is valid: entries that were not so, a letter after the pact's end, packs that are on no animal.
func TestCheckOpen(t *testing.T) {
	for i, change := range []func(c *api.Company){
		func(c *api.Company) { c.Log = []api.Entry{entry(0, "DRINK", -9), entry(0, "MARCH", make([]int, 9)...)} },
		func(c *api.Company) { c.Log = nil },
		func(c *api.Company) { c.Letters[0].Day = 99999 },
		func(c *api.Company) { c.Ties = make([]api.Tied, 3) },
		func(c *api.Company) { c.Ties[0] = tied(list(0, 1), nil, nil) },
		func(c *api.Company) { c.Camels[0] = api.Camel{} },
		func(c *api.Company) { c.Day = 99999 },
		func(c *api.Company) { c.Rows[1].Count = span(3, 3) },
		func(c *api.Company) { c.Rows[1].Count = span(0, 9) },
		func(c *api.Company) { c.Letters[1] = c.Letters[0] },
	} {
		c := busy()
		change(&c)
		wantValid(t, i, true, c)
	}
	for _, word := range allWords {
		c := chapter()
		c.Log = []api.Entry{entry(5, word, make([]int, numbersOf(word))...)}
		wantValid(t, word, true, c)
		for n := range 20 {
			c.Log[0].Args = make([]int, n)
			wantValid(t, word, n == numbersOf(word), c)
		}
	}
}

// The words of the chapter.
var allWords = []string{"MARCH", "REST", "MARK", "STAR", "NEAR", "DRINK", "JOLT", "SETTLE", "ROW", "LETTER"}

// numbersOf returns how many numbers a word has.
func numbersOf(word string) int {
	return list(9, 4, 6, 2, 3, 1, 2, 1, 14, 8)[slices.Index(allWords, word)]
}
