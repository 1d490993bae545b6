package load

import (
	"slices"

	"azalai/api"
)

// places is how many places an animal has for packs.
const places = 3

// listsOf returns the packs of a load by their places.
func listsOf(t api.Tied) [places][]int {
	return [places][]int{api.PlaceLeft: t.Left, api.PlaceRight: t.Right, api.PlaceTop: t.Top}
}

// loadOf returns the load with some packs at each place.
func loadOf(lists [places][]int) api.Tied {
	return api.Tied{Left: lists[api.PlaceLeft], Right: lists[api.PlaceRight], Top: lists[api.PlaceTop]}
}

// hasRoom tells whether a load has no more packs than an animal has room for.
func hasRoom(t api.Tied) bool { return len(t.Left)+len(t.Right)+len(t.Top) <= api.MaxTied }

// validTies tells whether ties are loads for so many packs.
func validTies(packs int, ties []api.Tied) bool {
	if len(ties) > api.MaxTies || !all(ties, hasRoom) {
		return false
	}
	tied := make([]bool, packs)
	for _, t := range ties {
		for _, list := range listsOf(t) {
			last := -1
			for _, i := range list {
				if !inRange(i, last+1, packs-1) || tied[i] {
					return false
				}
				tied[i], last = true, i
			}
		}
	}
	return true
}

// burden is a load at work: its packs by their indices, and what is left of each pack that there is, tied or not.
type burden struct {
	api.Tied
	rests []api.Span
}

// atWork returns a load for packs; it ends an attempt if they are not valid.
func atWork(packs []api.Pack, t api.Tied) burden {
	pass(Check(packs, []api.Tied{t}))
	return burden{t, restsOf(packs)}
}

// weights returns what is left of all packs at each place.
func (b burden) weights() [places]api.Span {
	var at [places]api.Span
	for place, list := range listsOf(b.Tied) {
		for _, i := range list {
			at[place] = sum(at[place], b.rests[i])
		}
	}
	return at
}

// balance returns what is known of whether a load is balanced to a bound.
func (b burden) balance(bound int) uint8 {
	at := b.weights()
	return balanced(at[api.PlaceLeft], at[api.PlaceRight], bound)
}

// balanced returns what is known of whether two numbers differ by at most a bound.
func balanced(left, right api.Span, bound int) uint8 {
	least, most := left.Lo-right.Hi, left.Hi-right.Lo
	switch {
	case -bound <= least && most <= bound:
		return api.KnownYes
	case bound < least || most < -bound:
		return api.KnownNo
	}
	return api.KnownOpen
}

// ready returns what is known of whether an animal can go with a load, by what it can carry.
func (b burden) ready(can api.Span, bound int) uint8 {
	at := b.weights()
	weight, balance := sum(at[:]...), b.balance(bound)
	switch {
	case balance == api.KnownYes && weight.Hi <= can.Lo:
		return api.KnownYes
	case balance == api.KnownNo || weight.Lo > can.Hi:
		return api.KnownNo
	}
	return api.KnownOpen
}

// settle returns the fewest packs with which on the other side a load is balanced for sure; it ends an attempt if there are none.
func (b burden) settle(bound int) []int {
	beside := slices.Concat(b.Left, b.Right)
	slices.Sort(beside)
	for moved := range subsets(beside) {
		if b.turned(moved).balance(bound) == api.KnownYes {
			return moved
		}
	}
	panic(api.ErrUneven)
}

// turned returns a load with some packs on the other side, in lists of its own.
func (b burden) turned(moved []int) burden {
	fromLeft, fromRight := common(moved, b.Left), common(moved, b.Right)
	return burden{
		api.Tied{
			Left:  replaced(b.Left, fromLeft, fromRight),
			Right: replaced(b.Right, fromRight, fromLeft),
			Top:   replaced(b.Top, nil, nil),
		},
		b.rests,
	}
}

// common returns the packs of a list that are in another one, too.
func common(list, other []int) []int {
	var both []int
	for _, i := range list {
		if slices.Contains(other, i) {
			both = append(both, i)
		}
	}
	return both
}

// replaced returns a list of packs without some of them and then with some more, as a new list in increasing order.
func replaced(list, off, on []int) []int {
	var next []int
	for _, i := range list {
		if !slices.Contains(off, i) {
			next = append(next, i)
		}
	}
	next = append(next, on...)
	slices.Sort(next)
	return next
}
