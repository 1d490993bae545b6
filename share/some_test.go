package share_test

import (
	"math/big"
	"math/rand/v2"
	"slices"

	"azalai/api"
)

// somePact has few partners, with small numbers that often lead to the same parts.
func somePact(r *rand.Rand) api.Pact {
	p := api.Pact{Calf: r.IntN(5) * 250, Hire: r.IntN(4), Ends: 6 + r.IntN(8)}
	left, id := 1000, r.IntN(2)
	for range 2 + r.IntN(3) {
		part := min(left, r.IntN(6)*100+r.IntN(2)*r.IntN(50))
		left -= part
		p.Partners = append(p.Partners, one(id, r.IntN(4)*100+r.IntN(2)*r.IntN(50), part))
		id += 1 + r.IntN(3)
	}
	p.Partners[r.IntN(2)].Share += left
	p.Partners[1].Put++
	return p
}

// someLetter is one of few animals and calves.
func someLetter(r *rand.Rand, p api.Pact, id int) api.Letter {
	l := api.Letter{Id: id, Day: r.IntN(15), Mouth: r.IntN(6) == 0}
	a := r.IntN(len(p.Partners))
	b := (a + 1 + r.IntN(len(p.Partners)-1)) % len(p.Partners)
	who, other, animal := p.Partners[a].Id, p.Partners[b].Id, r.IntN(3)
	switch l.Kind = uint8([]int{1, 2, 3, 3, 3, 4, 4, 5, 6, 6, 6, 7, 7, 8, 8}[r.IntN(15)]); l.Kind {
	case api.LetterLent:
		l.Who, l.Animal = who, animal
	case api.LetterBack, api.LetterDead:
		l.Animal = animal
	case api.LetterCalf:
		l.Animal, l.Other, l.Rials = animal, r.IntN(4), r.IntN(300)
	case api.LetterOwes, api.LetterPays:
		l.Who, l.Other, l.Rials = who, other, r.IntN(6)
	default:
		l.Rials = r.IntN(500)
	}
	return l
}

// someLetters are letters with different Ids, in no order.
func someLetters(r *rand.Rand, p api.Pact) []api.Letter {
	var l []api.Letter
	for _, id := range r.Perm(30)[:r.IntN(25)] {
		l = append(l, someLetter(r, p, id))
	}
	return l
}

// mixed returns letters in another order, some of them several times.
func mixed(r *rand.Rand, l []api.Letter) []api.Letter {
	next := slices.Clone(l)
	for range r.IntN(1 + len(l)) {
		next = append(next, l[r.IntN(len(l))])
	}
	r.Shuffle(len(next), func(i, k int) { next[i], next[k] = next[k], next[i] })
	return next
}

// ledger is the chapter told otherwise: which letters were done, and why they are void, from which all else is seen each time.
type ledger struct {
	p    api.Pact
	read []api.Letter
	why  []uint8
}

// ledgerOf does letters with different Ids.
func ledgerOf(p api.Pact, l []api.Letter) *ledger {
	g := &ledger{p: p}
	for day := range p.Ends + 1 {
		for id := range 100 {
			for _, letter := range l {
				if letter.Day == day && letter.Id == id {
					why := g.void(letter)
					g.read, g.why = append(g.read, letter), append(g.why, why)
				}
			}
		}
	}
	return g
}

// valid returns the letters that are not void.
func (g *ledger) valid() []api.Letter {
	var l []api.Letter
	for i, letter := range g.read {
		if g.why[i] == api.VoidNot {
			l = append(l, letter)
		}
	}
	return l
}

// owner returns whose animal is lent after a day's letters, and whether it is.
func (g *ledger) owner(animal, day int) (owner int, lent bool) {
	for _, l := range g.valid() {
		if l.Day <= day && l.Animal == animal && slices.Contains([]uint8{api.LetterLent, api.LetterBack, api.LetterDead}, l.Kind) {
			owner, lent = l.Who, l.Kind == api.LetterLent
		}
	}
	return owner, lent
}

func (g *ledger) dead(animal int) bool {
	return slices.ContainsFunc(g.valid(), func(l api.Letter) bool { return l.Kind == api.LetterDead && l.Animal == animal })
}

func (g *ledger) knows(calf int) bool {
	return slices.ContainsFunc(g.valid(), func(l api.Letter) bool { return l.Kind == api.LetterCalf && l.Other == calf })
}

func (g *ledger) owed(who, other int) int {
	rials := 0
	for _, l := range g.valid() {
		switch {
		case l.Who != who || l.Other != other:
		case l.Kind == api.LetterOwes:
			rials += l.Rials
		case l.Kind == api.LetterPays:
			rials -= l.Rials
		}
	}
	return rials
}

// void tells why the next letter is void.
func (g *ledger) void(l api.Letter) uint8 {
	_, isLent := g.owner(l.Animal, l.Day)
	isDead := g.dead(l.Animal)
	switch {
	case l.Kind == api.LetterLent && isLent:
		return api.VoidLent
	case l.Kind == api.LetterLent && isDead, l.Kind == api.LetterDead && isDead:
		return api.VoidDead
	case l.Kind == api.LetterCalf && g.knows(l.Other):
		return api.VoidTwice
	case (l.Kind == api.LetterBack || l.Kind == api.LetterDead || l.Kind == api.LetterCalf) && !isLent:
		return api.VoidHome
	case l.Kind == api.LetterPays && g.owed(l.Who, l.Other) < l.Rials:
		return api.VoidPaid
	}
	return api.VoidNot
}

// settled returns what each partner has at last, the hire paid night by night.
func (g *ledger) settled() []int {
	has, result := map[int]int{}, 0
	grant := func(owner, rials int) {
		has[owner] += rials
		result -= rials
	}
	for day := range g.p.Ends {
		for animal := range 3 {
			if owner, lent := g.owner(animal, day); lent {
				grant(owner, g.p.Hire)
			}
		}
	}
	for i, l := range g.read {
		switch {
		case g.why[i] != api.VoidNot:
		case l.Kind == api.LetterSold:
			result += l.Rials
		case l.Kind == api.LetterSpent:
			result -= l.Rials
		case l.Kind == api.LetterCalf:
			before := ledger{g.p, g.read[:i], g.why[:i]}
			owner, _ := before.owner(l.Animal, l.Day)
			result += l.Rials
			grant(owner, l.Rials*g.p.Calf/1000)
		}
	}
	var all []int
	for i, part := range partsOf(g.p, result) {
		who := g.p.Partners[i]
		rials := who.Put + part + has[who.Id]
		for _, other := range g.p.Partners {
			rials += g.owed(other.Id, who.Id) - g.owed(who.Id, other.Id)
		}
		all = append(all, rials)
	}
	return all
}

// exactParts returns what each partner gets of a result before it is rounded.
func exactParts(p api.Pact, result int) []*big.Rat {
	weights, whole := []int64{}, int64(0)
	for _, one := range p.Partners {
		weight := int64(one.Share)
		if result < 0 {
			weight = int64(one.Put)
		}
		weights, whole = append(weights, weight), whole+weight
	}
	var exact []*big.Rat
	for _, weight := range weights {
		part := new(big.Rat).SetFrac64(weight, whole)
		exact = append(exact, part.Mul(part, new(big.Rat).SetInt64(int64(result))))
	}
	return exact
}

// partsOf gives rials one by one, each one to the partner of whose part so far most is missing, once all have their parts rounded down.
func partsOf(p api.Pact, result int) []int {
	exact := exactParts(p, result)
	step := int64(1)
	if result < 0 {
		step = -1
	}
	parts, left := make([]int, len(exact)), result
	missing := func(i int) *big.Rat {
		d := new(big.Rat).Sub(exact[i], new(big.Rat).SetInt64(int64(parts[i])))
		return d.Mul(d, new(big.Rat).SetInt64(step))
	}
	for i, part := range exact {
		parts[i] = int(new(big.Int).Quo(part.Num(), part.Denom()).Int64())
		left -= parts[i]
	}
	for ; left != 0; left -= int(step) {
		most := 0
		for i := range exact {
			if missing(i).Cmp(missing(most)) > 0 {
				most = i
			}
		}
		parts[most] += int(step)
	}
	return parts
}
