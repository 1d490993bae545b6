package share_test

import (
	"maps"
	"slices"
	"testing"

	"azalai/api"
	"azalai/share"
)

// each is a valid letter of each kind for the pact of the chapter's examples.
func each() []api.Letter {
	return letters(sold(1, 1, 9), spent(1, 1, 9), lent(1, 1, 2, 5), back(1, 1, 5), dead(1, 1, 5), calf(1, 1, 5, 6, 9), owes(1, 1, 2, 3, 9), pays(1, 1, 2, 3, 9))
}

// P8.2: a kind that the chapter does not list is not valid.
func TestKinds(t *testing.T) {
	for kind := range 256 {
		bare := with(valid(), func(c *call) { c.l = letters(api.Letter{Kind: uint8(kind)}) })
		// Money, animals and calves may be all zero; the partner 0 is none.
		bare.wantErrors(t, due(slices.Contains(list(1, 2, 4, 5, 6), kind), api.ErrLetters), ofLetters...)
		bare.p.Partners[0].Id = 0
		bare.wantErrors(t, due(1 <= kind && kind <= 6, api.ErrLetters), "Read", "Settle", "Surely")
	}
}

// P8.2: an Id and a Day are in their ranges, in letters of all kinds.
func TestIdsAndDays(t *testing.T) {
	c := valid()
	for _, l := range each() {
		for id, ok := range around(0, 9999) {
			c.l = letters(with(l, func(l *api.Letter) { l.Id = id }))
			c.wantErrors(t, due(ok, api.ErrLetters), ofLetters...)
		}
		for day, ok := range around(0, 100000) {
			c.l = letters(with(l, func(l *api.Letter) { l.Day = day }))
			c.wantErrors(t, due(ok, api.ErrLetters), ofLetters...)
		}
		c.l = letters(told(l))
		c.wantErrors(t, api.OK, ofLetters...)
	}
}

// P8.2: the numbers that a kind names are in their ranges, and all others are 0.
func TestNumbersOfLetters(t *testing.T) {
	set := map[string]func(l *api.Letter, n int){
		"Who":    func(l *api.Letter, n int) { l.Who = n },
		"Other":  func(l *api.Letter, n int) { l.Other = n },
		"Animal": func(l *api.Letter, n int) { l.Animal = n },
		"Rials":  func(l *api.Letter, n int) { l.Rials = n },
	}
	animal, rials, nothing := around(0, 9999), around(0, 10000000), around(0, 0)
	partner := map[int]bool{0: false, 1: true, 2: true, 3: true, 4: false, -1: false, 1 << 32: false, 1<<32 + 1: false}
	// The partners of a debt are two different ones: the other one is 3, or 2.
	who, other := maps.Clone(partner), maps.Clone(partner)
	who[3], other[2] = false, false
	tables := []map[string]map[int]bool{
		api.LetterSold:  {"Who": nothing, "Other": nothing, "Animal": nothing, "Rials": rials},
		api.LetterSpent: {"Who": nothing, "Other": nothing, "Animal": nothing, "Rials": rials},
		api.LetterLent:  {"Who": partner, "Other": nothing, "Animal": animal, "Rials": nothing},
		api.LetterBack:  {"Who": nothing, "Other": nothing, "Animal": animal, "Rials": nothing},
		api.LetterDead:  {"Who": nothing, "Other": nothing, "Animal": animal, "Rials": nothing},
		api.LetterCalf:  {"Who": nothing, "Other": animal, "Animal": animal, "Rials": rials},
		api.LetterOwes:  {"Who": who, "Other": other, "Animal": nothing, "Rials": rials},
		api.LetterPays:  {"Who": who, "Other": other, "Animal": nothing, "Rials": rials},
	}
	for _, l := range each() {
		for name, numbers := range tables[l.Kind] {
			for n, ok := range numbers {
				c := valid()
				c.l = letters(with(l, func(l *api.Letter) { set[name](l, n) }))
				if _, _, e := share.Read(c.p, c.l); e != due(ok, api.ErrLetters) {
					t.Error(l.Kind, name, n, e)
				}
				c.wantErrors(t, due(ok, api.ErrLetters), ofLetters...)
			}
		}
	}
}

// P8.2: the letters that are not valid are found wherever they are, also after the end.
func TestLettersAnywhere(t *testing.T) {
	for at := range 6 {
		c := valid()
		c.l = slices.Insert(c.l, at, with(sold(20, 99999, 1), func(l *api.Letter) { l.Who = 1 }))
		c.wantErrors(t, api.ErrLetters, ofLetters...)
	}
}

// P8.2: at most 100 letters, however often one is in the list.
func TestMany(t *testing.T) {
	c := valid()
	c.l = slices.Repeat(letters(sold(1, 1, 1)), 100)
	c.wantErrors(t, api.OK)
	wantRead(t, c.p, c.l, letters(sold(1, 1, 1)), whys(0))
	c.l = append(c.l, sold(1, 1, 1))
	c.wantErrors(t, api.ErrMany, ofLetters...)
	var l []api.Letter
	for id := range 100 {
		l = append(l, sold(id, 1, 1))
	}
	c.l = l
	c.wantErrors(t, api.OK)
	wantRead(t, c.p, l, l, make([]uint8, 100))
	c.l = append(l, sold(100, 101, 1))
	c.wantErrors(t, api.ErrMany, ofLetters...)
}

// P8.2: two letters that differ have different Ids, whatever it is in which they differ.
func TestTwo(t *testing.T) {
	c := valid()
	debt := owes(20, 3, 1, 2, 5)
	for i, other := range letters(
		debt,
		owes(20, 4, 1, 2, 5), owes(20, 3, 3, 2, 5), owes(20, 3, 1, 3, 5), owes(20, 3, 1, 2, 6), pays(20, 3, 1, 2, 5),
		told(debt), sold(20, 3, 5), dead(20, 3, 0), owes(20, 99999, 1, 2, 5),
	) {
		want := due(i == 0, api.ErrTwo)
		c.l = append(letters(debt), append(chapter(), other)...)
		c.wantErrors(t, want, ofLetters...)
		slices.Reverse(c.l)
		c.wantErrors(t, want, ofLetters...)
		c.l = letters(debt, debt, other)
		c.wantErrors(t, want, ofLetters...)
	}
	for _, other := range letters(back(20, 3, 6), dead(20, 3, 5), told(back(20, 3, 5))) {
		c.l = letters(back(20, 3, 5), other)
		c.wantErrors(t, api.ErrTwo, ofLetters...)
	}
	// The same with other Ids.
	c.l = letters(debt, with(debt, func(l *api.Letter) { l.Id = 21 }))
	c.wantErrors(t, api.OK)
	// Two that both are not done.
	c.l = letters(sold(20, 101, 1), sold(20, 101, 2))
	c.wantErrors(t, api.ErrTwo, ofLetters...)
}

// P8.2: letters are done by their Days and Ids, each one once, and none after the end.
func TestRead(t *testing.T) {
	a, b, c, d := sold(9, 0, 1), sold(1, 3, 1), sold(2, 3, 1), told(sold(0, 100, 1))
	late := sold(0, 101, 1)
	for _, x := range []struct{ l, want []api.Letter }{
		{nil, nil},
		{letters(a, b, c, d), letters(a, b, c, d)},
		{letters(d, c, b, a), letters(a, b, c, d)},
		{letters(c, a, c, b, d, a, c, d), letters(a, b, c, d)},
		{letters(late, a, late), letters(a)},
		{letters(late), nil},
	} {
		wantRead(t, pact(), x.l, x.want, make([]uint8, len(x.want)))
	}
	// The first day is the end.
	first := with(pact(), func(p *api.Pact) { p.Ends = 0 })
	wantRead(t, first, letters(d, c, b, a), letters(a), whys(0))
	longest := with(pact(), func(p *api.Pact) { p.Ends = 100000 })
	wantRead(t, longest, letters(sold(1, 100000, 2)), letters(sold(1, 100000, 2)), whys(0))
}

// P8.2, P8.8: why each letter is void; letters are in the order in which they are done, with Ids of their own.
func TestVoid(t *testing.T) {
	for i, x := range []struct {
		l    []api.Letter
		want []uint8
	}{
		// Lent again while it is lent, also by its owner and on the same day; then by somebody else.
		{letters(lent(1, 1, 1, 5), lent(2, 1, 1, 5), lent(3, 2, 2, 5), lent(4, 2, 2, 6), back(5, 3, 5), lent(6, 3, 2, 5)), whys(0, api.VoidLent, api.VoidLent, 0, 0, 0)},
		{letters(lent(1, 1, 1, 5), dead(2, 2, 5), lent(3, 2, 1, 5), lent(4, 9, 2, 5)), whys(0, 0, api.VoidDead, api.VoidDead)},
		{letters(back(1, 1, 5), lent(2, 1, 1, 5), back(3, 1, 5), back(4, 1, 5)), whys(api.VoidHome, 0, 0, api.VoidHome)},
		{letters(lent(1, 1, 1, 5), back(2, 2, 6), dead(3, 3, 5), back(4, 4, 5)), whys(0, api.VoidHome, 0, api.VoidHome)},
		// Dead before not lent.
		{letters(dead(1, 1, 5), lent(2, 2, 1, 5), dead(3, 3, 5), dead(4, 4, 5)), whys(api.VoidHome, 0, 0, api.VoidDead)},
		{letters(lent(1, 1, 1, 5), back(2, 2, 5), dead(3, 3, 5), lent(4, 4, 1, 5)), whys(0, 0, api.VoidHome, 0)},
		// Known before not lent; a calf of which a void letter told is not known.
		{letters(calf(1, 1, 5, 6, 9), lent(2, 2, 1, 5), calf(3, 3, 5, 6, 9), calf(4, 4, 5, 6, 9), calf(5, 4, 5, 7, 9), back(6, 5, 5), calf(7, 6, 5, 6, 9), calf(8, 6, 5, 8, 9)), whys(api.VoidHome, 0, 0, api.VoidTwice, 0, 0, api.VoidTwice, api.VoidHome)},
		{letters(lent(1, 1, 1, 5), lent(2, 1, 2, 6), calf(3, 2, 5, 7, 9), calf(4, 3, 6, 7, 8), dead(5, 4, 6), calf(6, 5, 6, 8, 1)), whys(0, 0, 0, api.VoidTwice, 0, api.VoidHome)},
		// A calf is no animal that is lent, but may have the number of one, or of its mother, and be lent as others are.
		{letters(lent(1, 1, 1, 5), calf(2, 2, 5, 5, 9), calf(3, 3, 5, 6, 9), back(4, 4, 6), lent(5, 5, 2, 6), calf(6, 6, 6, 7, 9), dead(7, 7, 6), calf(8, 8, 5, 6, 9)), whys(0, 0, 0, api.VoidHome, 0, 0, 0, api.VoidTwice)},
		// Nothing is always paid; not more than what is owed, and not by those who do not owe it.
		{letters(pays(1, 1, 1, 2, 0), pays(2, 1, 1, 2, 1), owes(3, 2, 1, 2, 5), pays(4, 2, 2, 1, 1), pays(5, 2, 1, 3, 1), pays(6, 2, 1, 2, 6), pays(7, 3, 1, 2, 3), pays(8, 3, 1, 2, 3), pays(9, 3, 1, 2, 2), pays(10, 3, 1, 2, 1), pays(11, 3, 1, 2, 0)), whys(0, api.VoidPaid, 0, api.VoidPaid, api.VoidPaid, api.VoidPaid, 0, api.VoidPaid, 0, api.VoidPaid, 0)},
		{letters(owes(1, 1, 1, 2, 5), owes(2, 1, 1, 2, 5), owes(3, 1, 2, 1, 4), pays(4, 1, 1, 2, 10), pays(5, 1, 2, 1, 5), pays(6, 1, 2, 1, 4)), whys(0, 0, 0, 0, api.VoidPaid, 0)},
		{letters(sold(1, 1, 0), sold(2, 1, 0), spent(3, 1, 10000000), spent(4, 1, 10000000), owes(5, 1, 3, 1, 0)), whys(0, 0, 0, 0, 0)},
	} {
		wantRead(t, pact(), x.l, x.l, x.want)
		turned := slices.Repeat(x.l, 2)
		slices.Reverse(turned)
		wantRead(t, pact(), turned, x.l, x.want)
		if t.Failed() {
			t.Fatal(i)
		}
	}
}

// P8.2: what is told on the same day is done by the Ids, whatever it is.
func TestSameDay(t *testing.T) {
	wantRead(t, pact(), letters(lent(2, 5, 1, 7), dead(1, 5, 7)), letters(dead(1, 5, 7), lent(2, 5, 1, 7)), whys(api.VoidHome, 0))
	wantRead(t, pact(), letters(dead(2, 5, 7), lent(1, 5, 1, 7)), letters(lent(1, 5, 1, 7), dead(2, 5, 7)), whys(0, 0))
	wantRead(t, pact(), letters(pays(1, 5, 1, 2, 3), owes(2, 5, 1, 2, 3)), letters(pays(1, 5, 1, 2, 3), owes(2, 5, 1, 2, 3)), whys(api.VoidPaid, 0))
	wantRead(t, pact(), letters(pays(1, 5, 1, 2, 3), owes(2, 4, 1, 2, 3)), letters(owes(2, 4, 1, 2, 3), pays(1, 5, 1, 2, 3)), whys(0, 0))
	// An Id of more digits is not before one of fewer.
	wantRead(t, pact(), letters(sold(10, 5, 1), sold(9, 5, 1), sold(100, 5, 1)), letters(sold(9, 5, 1), sold(10, 5, 1), sold(100, 5, 1)), whys(0, 0, 0))
}
