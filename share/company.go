package share

import (
	"slices"

	"azalai/api"
)

// loan is an animal that is lent: by which partner, and since which day.
type loan struct{ owner, since int }

// pair is a partner who owes something to another one.
type pair struct{ who, other int }

// company is a pact at work: what is so by the letters that were done. Loans are by their animals, and gains, which are hire and parts of calves, by the Ids of the partners.
type company struct {
	api.Pact
	result       int
	loans        map[int]loan
	dead, calves map[int]bool
	gains        map[int]int
	debts        map[pair]int
}

// founded returns a company by which no letter was done.
func founded(p api.Pact) *company {
	return &company{
		Pact:   p,
		loans:  map[int]loan{},
		dead:   map[int]bool{},
		calves: map[int]bool{},
		gains:  map[int]int{},
		debts:  map[pair]int{},
	}
}

// after returns a company after letters, which letters were done, and why each of them is void.
func after(p api.Pact, l []api.Letter) (c *company, read []api.Letter, why []uint8) {
	c = founded(p)
	for letter := range inOrder(l, c.Ends) {
		read, why = append(read, letter), append(why, c.hears(letter))
	}
	return c, read, why
}

// settled returns what each partner has at last.
func settled(p api.Pact, l []api.Letter) []int {
	c, _, _ := after(p, l)
	return c.settles()
}

func (c *company) isPartner(id int) bool {
	return slices.ContainsFunc(c.Partners, func(p api.Partner) bool { return p.Id == id })
}

// arePartners tells whether two numbers are the Ids of two different partners.
func (c *company) arePartners(who, other int) bool {
	return who != other && c.isPartner(who) && c.isPartner(other)
}

// void is why a letter is void.
type void uint8

// voidIf ends what is done by a letter if the letter is void; it comes before anything is changed.
func voidIf(so bool, why void) {
	if so {
		panic(why)
	}
}

// hears does what a letter tells, and returns why it is void.
func (c *company) hears(l api.Letter) (why uint8) {
	defer func() {
		switch stopped := recover().(type) {
		case nil:
		case void:
			why = uint8(stopped)
		default:
			panic(stopped)
		}
	}()
	kinds()[l.Kind].does(c, l)
	return api.VoidNot
}

func (c *company) gets(l api.Letter) { c.result += l.Rials }

func (c *company) spends(l api.Letter) { c.result -= l.Rials }

func (c *company) borrows(l api.Letter) {
	voidIf(c.isLent(l.Animal), api.VoidLent)
	voidIf(c.dead[l.Animal], api.VoidDead)
	c.loans[l.Animal] = loan{l.Who, l.Day}
}

func (c *company) givesBack(l api.Letter) {
	voidIf(!c.isLent(l.Animal), api.VoidHome)
	c.endsLoan(l.Animal, l.Day)
}

func (c *company) buries(l api.Letter) {
	voidIf(c.dead[l.Animal], api.VoidDead)
	voidIf(!c.isLent(l.Animal), api.VoidHome)
	c.endsLoan(l.Animal, l.Day)
	c.dead[l.Animal] = true
}

func (c *company) raises(l api.Letter) {
	voidIf(c.calves[l.Other], api.VoidTwice)
	voidIf(!c.isLent(l.Animal), api.VoidHome)
	c.calves[l.Other] = true
	c.result += l.Rials
	c.grants(c.loans[l.Animal].owner, l.Rials*c.Calf/api.Whole)
}

func (c *company) notes(l api.Letter) { c.debts[pair{l.Who, l.Other}] += l.Rials }

func (c *company) strikesOff(l api.Letter) {
	debt := pair{l.Who, l.Other}
	voidIf(c.debts[debt] < l.Rials, api.VoidPaid)
	c.debts[debt] -= l.Rials
}

func (c *company) isLent(animal int) bool {
	_, lent := c.loans[animal]
	return lent
}

// endsLoan ends the loan of an animal on a day, and pays its hire.
func (c *company) endsLoan(animal, day int) {
	l := c.loans[animal]
	delete(c.loans, animal)
	c.grants(l.owner, (day-l.since)*c.Hire)
}

// grants gives some rials to one partner that would else be divided.
func (c *company) grants(partner, rials int) {
	c.result -= rials
	c.gains[partner] += rials
}

// settles ends all loans, divides the result, and returns what each partner has.
func (c *company) settles() []int {
	for animal := range c.loans {
		c.endsLoan(animal, c.Ends)
	}
	for debt, rials := range c.debts {
		c.gains[debt.who] -= rials
		c.gains[debt.other] += rials
	}
	has := divided(c.Pact, c.result)
	for i, p := range c.Partners {
		has[i] += p.Put + c.gains[p.Id]
	}
	return has
}
