package share

import (
	"iter"
	"slices"

	"azalai/api"
)

// kind is what letters of a kind need to be valid, and what a company does by one.
type kind struct {
	needs func(*company, api.Letter) bool
	does  func(*company, api.Letter)
}

func kinds() map[uint8]kind {
	return map[uint8]kind{
		api.LetterSold:  {(*company).isMoney, (*company).gets},
		api.LetterSpent: {(*company).isMoney, (*company).spends},
		api.LetterLent:  {(*company).isLoan, (*company).borrows},
		api.LetterBack:  {(*company).isAnimal, (*company).givesBack},
		api.LetterDead:  {(*company).isAnimal, (*company).buries},
		api.LetterCalf:  {(*company).isCalf, (*company).raises},
		api.LetterOwes:  {(*company).isDebt, (*company).notes},
		api.LetterPays:  {(*company).isDebt, (*company).strikesOff},
	}
}

func (c *company) isMoney(l api.Letter) bool {
	return validRials(l) && nothing(l.Who, l.Other, l.Animal)
}

func (c *company) isLoan(l api.Letter) bool {
	return c.isPartner(l.Who) && validId(l.Animal) && nothing(l.Other, l.Rials)
}

func (c *company) isAnimal(l api.Letter) bool {
	return validId(l.Animal) && nothing(l.Who, l.Other, l.Rials)
}

func (c *company) isCalf(l api.Letter) bool {
	return validId(l.Animal) && validId(l.Other) && validRials(l) && nothing(l.Who)
}

func (c *company) isDebt(l api.Letter) bool {
	return c.arePartners(l.Who, l.Other) && validRials(l) && nothing(l.Animal)
}

func validId(n int) bool { return inRange(n, 0, api.MaxId) }

func validRials(l api.Letter) bool { return inRange(l.Rials, 0, api.MaxRials) }

func (c *company) valid(l api.Letter) bool {
	k, ok := kinds()[l.Kind]
	return ok && validId(l.Id) && inRange(l.Day, 0, api.MaxDay) && k.needs(c, l)
}

// checkLetters returns the first error of a pact and of letters.
func checkLetters(p api.Pact, l []api.Letter) api.Errno {
	if e := Check(p); e != api.OK {
		return e
	}
	if len(l) > api.MaxLetters {
		return api.ErrMany
	}
	c := founded(p)
	for _, letter := range l {
		if !c.valid(letter) {
			return api.ErrLetters
		}
	}
	if twoDiffer(l) {
		return api.ErrTwo
	}
	return api.OK
}

// twoDiffer tells whether two letters that differ have the same Id.
func twoDiffer(l []api.Letter) bool {
	first := map[int]api.Letter{}
	for _, letter := range l {
		if other, ok := first[letter.Id]; ok && other != letter {
			return true
		}
		first[letter.Id] = letter
	}
	return false
}

// inOrder yields the letters of a list up to a day, by their Days and Ids, each one once. No two that differ have the same Id: so those that are the same are beside each other.
func inOrder(l []api.Letter, last int) iter.Seq[api.Letter] {
	return func(yield func(api.Letter) bool) {
		day := func(letter api.Letter) int { return letter.Day }
		id := func(letter api.Letter) int { return letter.Id }
		for _, letter := range slices.Compact(ordered(l, day, id)) {
			if letter.Day > last || !yield(letter) {
				return
			}
		}
	}
}
