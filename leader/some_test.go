package leader_test

import (
	"fmt"
	"math/rand/v2"
	"slices"

	"azalai/api"
	"azalai/brand"
	"azalai/camel"
	"azalai/guide"
	"azalai/leader"
	"azalai/load"
	"azalai/share"
	"azalai/way"
)

// upTo returns a span of numbers from one to another one.
func upTo(r *rand.Rand, least, most int) api.Span {
	a, b := least+r.IntN(most-least+1), least+r.IntN(most-least+1)
	if r.IntN(2) == 0 {
		b = a
	}
	return span(min(a, b), max(a, b))
}

// often returns a number that is often 0.
func often(r *rand.Rand, most int) int { return r.IntN(2) * r.IntN(most+1) }

func somePack(r *rand.Rand) api.Pack {
	p := api.Pack{Mass: upTo(r, 40, 60), Hurt: often(r, 60), Days: often(r, 9)}
	switch r.IntN(3) {
	case 0:
		p.Kind, p.Hard, p.Crumbs = api.PackSlab, upTo(r, 30, 90), upTo(r, 0, 300)
	case 1:
		p.Kind, p.Leak = api.PackSkin, upTo(r, 0, 2)
	default:
		p.Kind = api.PackBale
	}
	return p
}

// someTies are loads that are rather balanced.
func someTies(r *rand.Rand, packs, animals int) []api.Tied {
	ties := make([]api.Tied, animals)
	side := make([]int, animals)
	for pack := range packs {
		i := r.IntN(animals)
		tie := &ties[i]
		place := side[i] % 2
		side[i]++
		if r.IntN(6) == 0 {
			place = r.IntN(4)
		}
		switch place {
		case 0:
			tie.Left = append(tie.Left, pack)
		case 1:
			tie.Right = append(tie.Right, pack)
		case 2:
			tie.Top = append(tie.Top, pack)
		}
	}
	return ties
}

func someWell(r *rand.Rand) api.Well {
	room := 500 + r.IntN(5000)
	return api.Well{X: r.IntN(1500), Y: r.IntN(1500), Yield: upTo(r, 0, 100), Room: room, Has: upTo(r, room/2, room)}
}

// someCompany is valid, with numbers by which most commands are done about as often as they are not.
func someCompany(r *rand.Rand) api.Company {
	for {
		c := api.Company{
			Day: r.IntN(30), Area: area(upTo(r, 0, 1500), upTo(r, 0, 1500)), Bound: r.IntN(80), First: upTo(r, 0, 9),
			Breed: api.Breed{
				Full: 800 + r.IntN(400), Fed: 800 + r.IntN(400), Rest: upTo(r, 5, 120), Heat: span(0, r.IntN(3)), Toil: span(0, often(r, 3)),
				Burn: upTo(r, 0, 9), Rub: span(0, often(r, 4000)), Milk: span(0, often(r, 20)), Heal: often(r, 60), Strong: upTo(r, 200, 600),
			},
		}
		if r.IntN(20) == 0 {
			c.Day = 99999 - r.IntN(6)
		}
		for range 1 + r.IntN(3) {
			c.Land.Wells = append(c.Land.Wells, someWell(r))
		}
		for range 1 + r.IntN(4) {
			c.Camels = append(c.Camels, api.Camel{Water: upTo(r, 500, c.Breed.Full), Fat: upTo(r, 500, c.Breed.Fed), Sore: span(0, often(r, 300)), Milks: r.IntN(3) == 0})
		}
		for range r.IntN(9) {
			c.Packs = append(c.Packs, somePack(r))
		}
		if r.IntN(20) == 0 {
			c.Packs = append(c.Packs, api.Pack{Kind: api.PackBale, Days: 100000 - r.IntN(3)}, api.Pack{Kind: api.PackBale, Hurt: 6000000 - r.IntN(90)})
		}
		c.Ties = someTies(r, len(c.Packs), len(c.Camels))
		for range r.IntN(4) {
			c.Draws = append(c.Draws, draw(r.IntN(len(c.Land.Wells)), c.Day-r.IntN(c.Day%5+1), r.IntN(500)))
		}
		slices.SortFunc(c.Draws, func(a, b api.Draw) int { return a.Day - b.Day })
		c.Pact = api.Pact{Partners: []api.Partner{{Id: 1, Put: 300, Share: 400}, {Id: 2, Put: 100, Share: 600}}, Calf: 300, Hire: 3, Ends: 40}
		for range r.IntN(5) {
			c.Letters = append(c.Letters, someLetter(r))
		}
		for range r.IntN(3) {
			c.Rows = append(c.Rows, someRow(r))
		}
		for i := range often(r, 3) {
			c.Log = append(c.Log, done(c.Day*i/3, "STAR 0 9"))
		}
		if leader.Check(c) == api.OK {
			return c
		}
	}
}

func someRow(r *rand.Rand) api.Row {
	return api.Row{Born: upTo(r, 0, 3), Bought: span(0, r.IntN(2)), Found: span(0, r.IntN(2)), Died: upTo(r, 0, 2), Sold: span(0, r.IntN(2)), Strayed: span(0, r.IntN(2)), Count: upTo(r, 0, 15)}
}

func someLetter(r *rand.Rand) api.Letter {
	l := api.Letter{Id: r.IntN(12), Day: r.IntN(45), Mouth: r.IntN(9) == 0}
	partner := 1 + r.IntN(2)
	switch kind := uint8(1 + r.IntN(8)); kind {
	case api.LetterSold, api.LetterSpent:
		l.Kind, l.Rials = kind, r.IntN(500)
	case api.LetterLent:
		l.Kind, l.Who, l.Animal = kind, partner, r.IntN(3)
	case api.LetterBack, api.LetterDead:
		l.Kind, l.Animal = kind, r.IntN(3)
	case api.LetterCalf:
		l.Kind, l.Animal, l.Other, l.Rials = kind, r.IntN(3), 5+r.IntN(3), r.IntN(200)
	default:
		l.Kind, l.Who, l.Other, l.Rials = kind, partner, 3-partner, r.IntN(50)
	}
	return l
}

func numbersOfRow(r api.Row) []int {
	return list(r.Born.Lo, r.Born.Hi, r.Bought.Lo, r.Bought.Hi, r.Found.Lo, r.Found.Hi, r.Died.Lo, r.Died.Hi, r.Sold.Lo, r.Sold.Hi, r.Strayed.Lo, r.Strayed.Hi, r.Count.Lo, r.Count.Hi)
}

func numbersOfLetter(l api.Letter) []int {
	mouth := 0
	if l.Mouth {
		mouth = 1
	}
	return list(l.Id, l.Day, int(l.Kind), l.Who, l.Other, l.Animal, l.Rials, mouth)
}

// inOrder are the ends of spans.
func inOrder(spans ...api.Span) (l []int) {
	for _, s := range spans {
		l = append(l, s.Lo, s.Hi)
	}
	return l
}

// someCommand is mostly one that is right.
func someCommand(r *rand.Rand, c api.Company) (word string, args []int) {
	word = allWords[r.IntN(len(allWords))]
	switch word {
	case "MARCH":
		args = append(list(1+r.IntN(12)), inOrder(upTo(r, -300, 300), upTo(r, -300, 300), upTo(r, 10, 50), upTo(r, 0, 60))...)
	case "REST":
		args = inOrder(upTo(r, 10, 50), upTo(r, 0, 60))
	case "MARK":
		// Around the direction in which it is, from one place.
		x, y := r.IntN(3000)-1000, r.IntN(3000)-1000
		dx, dy := (x-r.IntN(1500))/4, (y-r.IntN(1500))/4
		args = list(x, y, dx+dy/2, dy-dx/2, dx-dy/2, dy+dx/2)
	case "STAR":
		args = inOrder(upTo(r, -200, 1700))
	case "NEAR":
		args = list(r.IntN(1500), r.IntN(1500), 200+r.IntN(900))
	case "DRINK":
		args = list(r.IntN(len(c.Land.Wells)))
	case "JOLT":
		args = list(r.IntN(len(c.Ties)), r.IntN(50))
	case "SETTLE":
		args = list(r.IntN(len(c.Ties)))
	case "ROW":
		args = numbersOfRow(someRow(r))
	case "LETTER":
		args = numbersOfLetter(someLetter(r))
	}
	if r.IntN(30) == 0 {
		args[r.IntN(len(args))] = list(-1, -400, 1000, 200000, 1<<40)[r.IntN(5)]
	}
	if r.IntN(100) == 0 {
		args = args[1:]
	}
	return word, args
}

// What follows tells word by word of the chapter what is to be done.

// ending is a company after a command, or why it is refused.
type ending struct {
	c    api.Company
	said string
	e    api.Errno
}

func refused(e api.Errno) ending { return ending{e: e} }

func doubted(said ...any) ending {
	return ending{said: plain(said...), e: api.ErrDoubt}
}

// tell tells what a command does.
func tell(c api.Company, word string, n []int) ending {
	at := slices.Index(allWords, word)
	switch {
	case at < 0 || len(n) != numbersOf(word):
		return refused(api.ErrWord)
	case slices.ContainsFunc(n, func(one int) bool { return one < -1000000000000 || one > 1000000000000 }):
		return refused(api.ErrArg)
	case len(c.Log) == 200:
		return refused(api.ErrFull)
	}
	var end ending
	switch word {
	case "MARCH":
		end = tellDay(c, api.March{Hours: n[0], Heat: span(n[5], n[6]), Grass: span(n[7], n[8])}, api.Trek{Days: exactly(1), East: span(n[1], n[2]), North: span(n[3], n[4])}, false)
	case "REST":
		end = tellDay(c, api.March{Heat: span(n[0], n[1]), Grass: span(n[2], n[3])}, api.Trek{}, true)
	case "MARK":
		end = tellLook(c, api.Sight{Kind: 1, X: n[0], Y: n[1], From: api.Course{X: n[2], Y: n[3]}, To: api.Course{X: n[4], Y: n[5]}})
	case "STAR":
		end = tellLook(c, api.Sight{Kind: 2, North: span(n[0], n[1])})
	case "NEAR":
		end = tellLook(c, api.Sight{Kind: 3, X: n[0], Y: n[1], Far: n[2]})
	case "DRINK":
		end = tellDrink(c, n[0])
	case "JOLT", "SETTLE":
		end = tellLoad(c, word, n)
	default:
		end = tellLine(c, word, n)
	}
	if end.e == api.OK {
		end.c.Log = append(slices.Clone(c.Log), entry(end.c.Day, word, n...))
	}
	return end
}

func tellDay(c api.Company, m api.March, trek api.Trek, rests bool) ending {
	if c.Day == 99999 {
		return refused(api.ErrFull)
	}
	_, _, wrong := camel.Cost(c.Breed, false, m)
	_, wrongTrek := guide.March(area(exactly(0), exactly(0)), trek)
	if wrong != api.OK || wrongTrek != api.OK || !rests && m.Hours < 1 {
		return refused(api.ErrBad)
	}
	packs, e := load.Jolted(c.Packs, c.Ties, nil, 1)
	if e != api.OK {
		return refused(api.ErrFull)
	}
	var animals []api.Camel
	var loads [][2]int
	for i, tie := range c.Ties {
		_, _, weight, _ := load.Sides(c.Packs, tie)
		loads = append(loads, [2]int{weight.Lo, weight.Hi})
		if ready, _ := load.Ready(c.Breed, c.Camels[i], c.Packs, tie, c.Bound); !rests && ready != 2 {
			return doubted("weak", i)
		}
	}
	for i, animal := range c.Camels {
		var ends []api.Camel
		for _, weight := range loads[i] {
			if m.Load = weight; rests {
				m.Load = 0
			}
			next, fate, e := camel.After(c.Breed, animal, m)
			if (e != api.OK || fate != 0) && weight == loads[i][1] {
				return doubted("dies", i)
			}
			ends = append(ends, next)
		}
		hull := func(a, b api.Span) api.Span { return span(min(a.Lo, b.Lo), max(a.Hi, b.Hi)) }
		animals = append(animals, api.Camel{Water: hull(ends[0].Water, ends[1].Water), Fat: hull(ends[0].Fat, ends[1].Fat), Sore: hull(ends[0].Sore, ends[1].Sore), Milks: animal.Milks})
	}
	after, e := guide.March(c.Area, trek)
	if e == api.ErrFull {
		return refused(api.ErrFull)
	}
	if rests {
		after = c.Area
	}
	c.Day, c.Area, c.Camels, c.Packs = c.Day+1, after, animals, packs
	return ending{c: c}
}

func tellLook(c api.Company, l api.Sight) ending {
	next, e := guide.See(c.Area, l)
	switch e {
	case api.ErrSight:
		return refused(api.ErrBad)
	case api.ErrFull:
		return refused(api.ErrFull)
	case api.ErrLost:
		return doubted("lost")
	}
	c.Area = next
	return ending{c: c}
}

func tellDrink(c api.Company, well int) ending {
	if well < 0 || well >= len(c.Land.Wells) {
		return refused(api.ErrBad)
	}
	if len(c.Draws) == 200 {
		return refused(api.ErrFull)
	}
	if near, _ := guide.Near(c.Area, c.Land.Wells[well].X, c.Land.Wells[well].Y, 1000); near != 2 {
		return doubted("far")
	}
	water := 0
	var animals []api.Camel
	for _, animal := range c.Camels {
		water += c.Breed.Full - animal.Water.Lo
		animal.Water = exactly(c.Breed.Full)
		animals = append(animals, animal)
	}
	if has, _, _ := way.Water(c.Land, well, c.Draws, c.Day+1); water > has.Lo {
		return doubted("dry")
	}
	c.Draws = append(slices.Clone(c.Draws), draw(well, c.Day, water))
	c.Camels = animals
	return ending{c: c}
}

func tellLoad(c api.Company, word string, n []int) ending {
	if n[0] < 0 || n[0] >= len(c.Ties) {
		return refused(api.ErrBad)
	}
	if word == "JOLT" {
		if n[1] < 0 || n[1] > 100000 {
			return refused(api.ErrBad)
		}
		packs, e := load.Jolted(c.Packs, c.Ties, []api.Jolt{{Tie: n[0], Hurt: n[1]}}, 0)
		if e != api.OK {
			return refused(api.ErrFull)
		}
		c.Packs = packs
		return ending{c: c}
	}
	tie := c.Ties[n[0]]
	moved, e := load.Settle(c.Packs, tie, c.Bound)
	if e == api.ErrUneven {
		return doubted("uneven")
	}
	var next api.Tied
	for pack := range c.Packs {
		left, right, moves := slices.Contains(tie.Left, pack), slices.Contains(tie.Right, pack), slices.Contains(moved, pack)
		if left && !moves || right && moves {
			next.Left = append(next.Left, pack)
		}
		if right && !moves || left && moves {
			next.Right = append(next.Right, pack)
		}
	}
	next.Top = tie.Top
	c.Ties = slices.Clone(c.Ties)
	c.Ties[n[0]] = next
	return ending{c: c}
}

func tellLine(c api.Company, word string, n []int) ending {
	if word == "ROW" {
		rows := append(slices.Clone(c.Rows), api.Row{Born: span(n[0], n[1]), Bought: span(n[2], n[3]), Found: span(n[4], n[5]), Died: span(n[6], n[7]), Sold: span(n[8], n[9]), Strayed: span(n[10], n[11]), Count: span(n[12], n[13])})
		_, _, _, e := brand.Tally(c.First, rows)
		switch {
		case len(rows) > 40:
			return refused(api.ErrFull)
		case e == api.ErrRow:
			return refused(api.ErrBad)
		case e == api.ErrTally:
			return doubted("tally")
		}
		c.Rows = rows
		return ending{c: c}
	}
	l := api.Letter{Id: n[0], Day: n[1], Kind: uint8(n[2]), Who: n[3], Other: n[4], Animal: n[5], Rials: n[6], Mouth: n[7] == 1}
	if len(c.Letters) == 100 {
		return refused(api.ErrFull)
	}
	if _, _, e := share.Read(c.Pact, letters(l)); e != api.OK || n[2] < 0 || n[2] > 255 || n[7] < 0 || n[7] > 1 {
		return refused(api.ErrBad)
	}
	if slices.ContainsFunc(c.Letters, func(other api.Letter) bool { return other.Id == l.Id && other != l }) {
		return doubted("two")
	}
	c.Letters = append(slices.Clone(c.Letters), l)
	return ending{c: c}
}

// name returns a short text of a call.
func name(word string, args []int) string { return fmt.Sprint(word, " ", args) }
