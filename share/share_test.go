package share_test

import (
	"math"
	"slices"
	"testing"

	"azalai/api"
	"azalai/share"
)

func span(lo, hi int) api.Span { return api.Span{Lo: lo, Hi: hi} }

// list are numbers.
func list(l ...int) []int { return l }

// whys are reasons why letters are void.
func whys(l ...uint8) []uint8 { return l }

func letters(l ...api.Letter) []api.Letter { return l }

func sold(id, day, rials int) api.Letter {
	return api.Letter{Id: id, Day: day, Kind: api.LetterSold, Rials: rials}
}

func spent(id, day, rials int) api.Letter {
	return api.Letter{Id: id, Day: day, Kind: api.LetterSpent, Rials: rials}
}

func lent(id, day, who, animal int) api.Letter {
	return api.Letter{Id: id, Day: day, Kind: api.LetterLent, Who: who, Animal: animal}
}

func back(id, day, animal int) api.Letter {
	return api.Letter{Id: id, Day: day, Kind: api.LetterBack, Animal: animal}
}

func dead(id, day, animal int) api.Letter {
	return api.Letter{Id: id, Day: day, Kind: api.LetterDead, Animal: animal}
}

func calf(id, day, animal, young, rials int) api.Letter {
	return api.Letter{Id: id, Day: day, Kind: api.LetterCalf, Animal: animal, Other: young, Rials: rials}
}

func owes(id, day, who, other, rials int) api.Letter {
	return api.Letter{Id: id, Day: day, Kind: api.LetterOwes, Who: who, Other: other, Rials: rials}
}

func pays(id, day, who, other, rials int) api.Letter {
	return api.Letter{Id: id, Day: day, Kind: api.LetterPays, Who: who, Other: other, Rials: rials}
}

// told is a letter that was told by mouth.
func told(l api.Letter) api.Letter {
	l.Mouth = true
	return l
}

// one is a partner.
func one(id, put, part int) api.Partner { return api.Partner{Id: id, Put: put, Share: part} }

// pact is that of the chapter's examples, or one with other partners.
func pact(partners ...api.Partner) api.Pact {
	if len(partners) == 0 {
		partners = []api.Partner{one(1, 600, 500), one(2, 300, 200), one(3, 0, 300)}
	}
	return api.Pact{Partners: partners, Calf: 500, Hire: 2, Ends: 100}
}

// chapter are the letters of the chapter's examples.
func chapter() []api.Letter {
	return letters(lent(10, 5, 3, 7), calf(11, 20, 7, 8, 101), dead(12, 30, 7), sold(13, 50, 1000), spent(14, 60, 300))
}

func with[T any](v T, change func(*T)) T {
	change(&v)
	return v
}

// around are numbers at the edges of a range, and far beyond them, with whether they are in it.
func around(least, most int) map[int]bool {
	return map[int]bool{
		least - 1: false, most + 1: false, least + 1<<40: false, least - 1<<40: false, 1 << 62: false, math.MinInt: false, math.MaxInt: false,
		least: true, most: true,
	}
}

// due returns no error for what is valid, and a certain one for all else.
func due(valid bool, bad api.Errno) api.Errno {
	if valid {
		return api.OK
	}
	return bad
}

// The functions, by their names.
var (
	ofLetters = []string{"Read", "Settle", "Owed", "Surely"}
	all       = slices.Concat([]string{"Check", "Divide"}, ofLetters)
)

// call is all that the functions are called with.
type call struct {
	p                  api.Pact
	l                  []api.Letter
	result, who, other int
}

// outcome is the error of a call, and whether all else that it returned is zero.
type outcome struct {
	e    api.Errno
	zero bool
}

func (c call) outcomes() map[string]outcome {
	parts, ofDivide := share.Divide(c.p, c.result)
	read, why, ofRead := share.Read(c.p, c.l)
	has, ofSettle := share.Settle(c.p, c.l)
	rials, ofOwed := share.Owed(c.p, c.l, c.who, c.other)
	spans, ofSurely := share.Surely(c.p, c.l)
	return map[string]outcome{
		"Check":  {share.Check(c.p), true},
		"Divide": {ofDivide, len(parts) == 0},
		"Read":   {ofRead, len(read) == 0 && len(why) == 0},
		"Settle": {ofSettle, len(has) == 0},
		"Owed":   {ofOwed, rials == 0},
		"Surely": {ofSurely, len(spans) == 0},
	}
}

// valid is a call without an error.
func valid() call { return call{p: pact(), l: chapter(), result: 1, who: 1, other: 2} }

// wantErrors checks the error of some functions, or of all.
func (c call) wantErrors(t *testing.T, want api.Errno, names ...string) {
	t.Helper()
	if len(names) == 0 {
		names = all
	}
	got := c.outcomes()
	for _, name := range names {
		if got[name].e != want || want != api.OK && !got[name].zero {
			t.Errorf("%s %+v: %v, want %v", name, c, got[name], want)
		}
	}
}

func wantDivided(t *testing.T, p api.Pact, result int, want ...int) {
	t.Helper()
	if got, e := share.Divide(p, result); !slices.Equal(got, want) || e != api.OK {
		t.Errorf("Divide %+v %d: %v %v, want %v", p, result, got, e, want)
	}
}

func wantRead(t *testing.T, p api.Pact, l []api.Letter, want []api.Letter, whys []uint8) {
	t.Helper()
	if got, why, e := share.Read(p, l); !slices.Equal(got, want) || !slices.Equal(why, whys) || e != api.OK {
		t.Errorf("Read %+v %+v: %v %v %v, want %v %v", p, l, got, why, e, want, whys)
	}
}

func wantSettled(t *testing.T, p api.Pact, l []api.Letter, want ...int) {
	t.Helper()
	if got, e := share.Settle(p, l); !slices.Equal(got, want) || e != api.OK {
		t.Errorf("Settle %+v %+v: %v %v, want %v", p, l, got, e, want)
	}
}

func wantOwed(t *testing.T, p api.Pact, l []api.Letter, who, other, want int) {
	t.Helper()
	if got, e := share.Owed(p, l, who, other); got != want || e != api.OK {
		t.Errorf("Owed %+v %+v %d %d: %v %v, want %v", p, l, who, other, got, e, want)
	}
}

func wantSurely(t *testing.T, p api.Pact, l []api.Letter, want ...api.Span) {
	t.Helper()
	if got, e := share.Surely(p, l); !slices.Equal(got, want) || e != api.OK {
		t.Errorf("Surely %+v %+v: %v %v, want %v", p, l, got, e, want)
	}
}

// The chapter's examples.
func TestExamples(t *testing.T) {
	p, first := pact(), chapter()
	wantDivided(t, p, 1001, 501, 200, 300)
	wantDivided(t, p, -100, -67, -33, 0)
	wantSettled(t, p, first, 951, 440, 310)

	twice := append(chapter(), calf(15, 25, 7, 8, 90))
	wantSettled(t, p, twice, 951, 440, 310)
	wantRead(t, p, twice, letters(first[0], first[1], twice[5], first[2], first[3], first[4]), whys(0, 0, api.VoidTwice, 0, 0, 0))

	debts := append(chapter(), owes(16, 21, 1, 2, 40), pays(17, 22, 1, 2, 50), pays(18, 23, 1, 2, 30))
	wantSettled(t, p, debts, 941, 450, 310)
	wantRead(t, p, debts, letters(first[0], first[1], debts[5], debts[6], debts[7], first[2], first[3], first[4]), whys(0, 0, 0, api.VoidPaid, 0, 0, 0, 0))
	wantOwed(t, p, debts, 1, 2, 10)
	wantOwed(t, p, debts, 2, 1, 0)

	mouth := chapter()
	mouth[2].Mouth = true
	wantSurely(t, p, mouth, span(881, 951), span(412, 440), span(310, 408))
}

// P8.1: which pacts are valid, by each of their numbers.
func TestPactNumbers(t *testing.T) {
	numbers := []struct {
		name        string
		least, most int
		set         func(p *api.Pact, n int)
	}{
		{"first Id", 0, 1, func(p *api.Pact, n int) { p.Partners[0].Id = n }},
		{"second Id", 2, 2, func(p *api.Pact, n int) { p.Partners[1].Id = n }},
		{"last Id", 3, 9999, func(p *api.Pact, n int) { p.Partners[2].Id = n }},
		{"Put", 0, 100000000, func(p *api.Pact, n int) { p.Partners[1].Put = n }},
		{"last Put", 0, 100000000, func(p *api.Pact, n int) { p.Partners[2].Put = n }},
		{"Calf", 0, 1000, func(p *api.Pact, n int) { p.Calf = n }},
		{"Hire", 0, 1000, func(p *api.Pact, n int) { p.Hire = n }},
		{"Ends", 0, 100000, func(p *api.Pact, n int) { p.Ends = n }},
		{"a Share", 0, 1000, func(p *api.Pact, n int) { p.Partners[0].Share, p.Partners[1].Share, p.Partners[2].Share = n, 1000-n, 0 }},
		{"the last Share", 0, 1000, func(p *api.Pact, n int) { p.Partners[0].Share, p.Partners[1].Share, p.Partners[2].Share = 0, 1000-n, n }},
		{"all Shares", 300, 300, func(p *api.Pact, n int) { p.Partners[2].Share = n }},
	}
	for _, x := range numbers {
		for n, ok := range around(x.least, x.most) {
			c := valid()
			x.set(&c.p, n)
			if e := share.Check(c.p); e != due(ok, api.ErrPact) {
				t.Errorf("%s %d: %v", x.name, n, e)
			}
			if !ok {
				c.wantErrors(t, api.ErrPact)
			}
		}
	}
}

// P8.1: which lists of partners are valid.
func TestPartners(t *testing.T) {
	some := func(n int) []api.Partner {
		l := []api.Partner{one(0, 1, 1000)}
		for id := 1; id < n; id++ {
			l = append(l, one(id, 0, 0))
		}
		return l[:n]
	}
	for i, x := range []struct {
		partners []api.Partner
		valid    bool
	}{
		{some(0), false}, {some(1), true}, {some(8), true}, {some(9), false},
		{[]api.Partner{one(5, 0, 1000)}, false},
		{[]api.Partner{one(5, 1, 999)}, false},
		{[]api.Partner{one(5, 1, 1001)}, false},
		{[]api.Partner{one(9999, 100000000, 1000)}, true},
		{[]api.Partner{one(5, 1, 500), one(5, 1, 500)}, false},
		{[]api.Partner{one(6, 1, 500), one(5, 1, 500)}, false},
		{[]api.Partner{one(5, 1, 500), one(6, 1, 500)}, true},
		{[]api.Partner{one(5, 0, 1000), one(6, 1, 0)}, true},
		{[]api.Partner{one(5, 0, 1000), one(6, 0, 0)}, false},
		{[]api.Partner{one(5, 2, 1000), one(6, -1, 0)}, false},
		{[]api.Partner{one(5, -1, 1000), one(6, 2, 0)}, false},
		{[]api.Partner{one(5, 1, 1001), one(6, 0, -1)}, false},
		// These are 1 or 1,000 together, if they overflow unnoticed.
		{[]api.Partner{one(5, math.MaxInt, 1000), one(6, math.MaxInt, 0), one(7, 3, 0)}, false},
		{[]api.Partner{one(5, 1, math.MaxInt), one(6, 0, math.MaxInt), one(7, 0, 1002)}, false},
	} {
		c := valid()
		c.p.Partners = x.partners
		if e := share.Check(c.p); e != due(x.valid, api.ErrPact) {
			t.Error(i, e)
		}
		if !x.valid {
			c.wantErrors(t, api.ErrPact)
		}
	}
}

// P8.1: profits are divided by shares, and losses by puts, to the last rial.
func TestDivide(t *testing.T) {
	even := pact(one(1, 1, 250), one(2, 1, 250), one(3, 1, 500))
	last := pact(one(1, 1, 1), one(2, 2, 2), one(3, 4, 997))
	lone := pact(one(4, 7, 0), one(5, 0, 1000))
	rich := pact(one(1, 100000000, 333), one(2, 100000000, 333), one(3, 99999999, 334))
	for _, x := range []struct {
		p      api.Pact
		result int
		want   []int
	}{
		{pact(), 0, list(0, 0, 0)},
		// 0.5, 0.2 and 0.3; 1, 0.4 and 0.6; 1.5, 0.6 and 0.9.
		{pact(), 1, list(1, 0, 0)},
		{pact(), 2, list(1, 0, 1)},
		{pact(), 3, list(1, 1, 1)},
		{pact(), -1, list(-1, 0, 0)},
		{pact(), -2, list(-1, -1, 0)},
		{pact(), -3, list(-2, -1, 0)},
		// Of several ones to the first ones: 0.25, 0.25 and 0.5; 0.5, 0.5 and 1; 0.75, 0.75 and 1.5.
		{even, 1, list(0, 0, 1)},
		{even, 2, list(1, 0, 1)},
		{even, 3, list(1, 1, 1)},
		{even, -1, list(-1, 0, 0)},
		{even, -2, list(-1, -1, 0)},
		{even, -4, list(-2, -1, -1)},
		// The last ones come first: 0.999, 1.998 and 996.003; 1/7, 2/7 and 4/7.
		{last, 999, list(1, 2, 996)},
		{last, 500, list(1, 1, 498)},
		{last, -1, list(0, 0, -1)},
		{last, -2, list(0, -1, -1)},
		{lone, 10, list(0, 10)},
		{lone, -10, list(-10, 0)},
		{rich, 10000000000, list(3330000000, 3330000000, 3340000000)},
		{rich, -10000000000, list(-3333333345, -3333333344, -3333333311)},
	} {
		wantDivided(t, x.p, x.result, x.want...)
	}
	for result, ok := range around(-10000000000, 10000000000) {
		with(valid(), func(c *call) { c.result = result }).wantErrors(t, due(ok, api.ErrArg), "Divide")
	}
}

// P8.1: nothing overflows where the numbers are the greatest.
func TestDivideMost(t *testing.T) {
	most := pact()
	most.Partners = nil
	for id := range 8 {
		most.Partners = append(most.Partners, one(id, 100000000, 125))
	}
	wantDivided(t, most, 10000000000, slices.Repeat(list(1250000000), 8)...)
	wantDivided(t, most, -10000000000, slices.Repeat(list(-1250000000), 8)...)
	wantDivided(t, most, -9999999997, -1250000000, -1250000000, -1250000000, -1250000000, -1250000000, -1249999999, -1249999999, -1249999999)
	lone := pact(one(0, 100000000, 1000))
	wantDivided(t, lone, 10000000000, 10000000000)
	wantDivided(t, lone, -10000000000, -10000000000)
}
