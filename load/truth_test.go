package load_test

import (
	"math/big"
	"math/rand/v2"
	"slices"
	"testing"

	"azalai/api"
	"azalai/camel"
	"azalai/load"
)

func number(n int) *big.Rat { return big.NewRat(int64(n), 1) }

func plus(l ...*big.Rat) *big.Rat {
	all := new(big.Rat)
	for _, x := range l {
		all.Add(all, x)
	}
	return all
}

func times(a, b *big.Rat) *big.Rat { return new(big.Rat).Mul(a, b) }

func less(a, b *big.Rat) *big.Rat { return new(big.Rat).Sub(a, b) }

func least(l ...*big.Rat) *big.Rat { return slices.MinFunc(l, (*big.Rat).Cmp) }

func greatest(l ...*big.Rat) *big.Rat { return slices.MaxFunc(l, (*big.Rat).Cmp) }

func inside(x *big.Rat, s api.Span) bool {
	return number(s.Lo).Cmp(x) <= 0 && x.Cmp(number(s.Hi)) <= 0
}

// wholes returns the least span of whole numbers in which some numbers from 0 on are.
func wholes(l ...*big.Rat) api.Span {
	lo, hi := least(l...), greatest(l...)
	down := new(big.Int).Div(lo.Num(), lo.Denom())
	up := new(big.Int).Div(new(big.Int).Sub(new(big.Int).Add(hi.Num(), hi.Denom()), big.NewInt(1)), hi.Denom())
	return span(int(down.Int64()), int(up.Int64()))
}

// truth is what a pack is really like.
type truth struct{ mass, hard, crumbs, leak *big.Rat }

// within returns a real number of a span, often one of its ends.
func within(r *rand.Rand, s api.Span) *big.Rat {
	part := []*big.Rat{number(0), number(0), big.NewRat(1, 7), big.NewRat(1, 2), big.NewRat(2, 3), number(1), number(1)}[r.IntN(7)]
	return plus(number(s.Lo), times(part, number(s.Hi-s.Lo)))
}

func someTruth(r *rand.Rand, p api.Pack) truth {
	return truth{within(r, p.Mass), within(r, p.Hard), within(r, p.Crumbs), within(r, p.Leak)}
}

// corners are the truths of a pack in which each number is at an end of its span.
func corners(p api.Pack) []truth {
	var l []truth
	for _, m := range []int{p.Mass.Lo, p.Mass.Hi} {
		for _, h := range []int{p.Hard.Lo, p.Hard.Hi} {
			for _, c := range []int{p.Crumbs.Lo, p.Crumbs.Hi} {
				for _, k := range []int{p.Leak.Lo, p.Leak.Hi} {
					l = append(l, truth{number(m), number(h), number(c), number(k)})
				}
			}
		}
	}
	return l
}

// breaks tells whether a pack is a slab that really breaks.
func (x truth) breaks(p api.Pack) bool {
	return p.Kind == api.PackSlab && number(p.Hurt).Cmp(x.hard) >= 0
}

// lost is what is really lost of a pack, word by word of the chapter.
func (x truth) lost(p api.Pack) *big.Rat {
	switch {
	case x.breaks(p):
		return times(x.mass, times(x.crumbs, big.NewRat(1, 1000)))
	case p.Kind == api.PackSkin:
		return least(x.mass, times(number(p.Days), x.leak))
	}
	return number(0)
}

func (x truth) left(p api.Pack) *big.Rat { return less(x.mass, x.lost(p)) }

func upTo(r *rand.Rand, from, most int) api.Span {
	a, b := from+r.IntN(most-from+1), from+r.IntN(most-from+1)
	if r.IntN(3) == 0 {
		b = a
	}
	return span(min(a, b), max(a, b))
}

// somePack returns a pack of few numbers, so that slabs break or do not, and skins have some left or nothing.
func somePack(r *rand.Rand, most int) api.Pack {
	p := api.Pack{Kind: uint8(1 + r.IntN(3)), Mass: upTo(r, 0, most), Hurt: r.IntN(40), Days: r.IntN(12)}
	switch p.Kind {
	case 1:
		p.Hard, p.Crumbs = upTo(r, 1, 30), upTo(r, 0, 1000)
		if r.IntN(4) == 0 {
			p.Crumbs = upTo(r, 0, 30)
		}
	case 3:
		p.Leak = upTo(r, 0, 1+most/4)
	}
	return p
}

func somePacks(r *rand.Rand, n, most int) []api.Pack {
	var l []api.Pack
	for range n {
		l = append(l, somePack(r, most))
	}
	return l
}

func someTruths(r *rand.Rand, packs []api.Pack) []truth {
	var l []truth
	for _, p := range packs {
		l = append(l, someTruth(r, p))
	}
	return l
}

// P5.1: what is told of a pack reaches from the least to the greatest that may be left, and lost, and whether it breaks is so in all truths, or in none.
func TestRestCorners(t *testing.T) {
	r := rand.New(rand.NewPCG(5, 1))
	seen := map[uint8]int{}
	for range 20000 {
		p := somePack(r, []int{10, 1000, 100000}[r.IntN(3)])
		var lefts, losts []*big.Rat
		broken := map[bool]bool{}
		for _, x := range corners(p) {
			lefts, losts = append(lefts, x.left(p)), append(losts, x.lost(p))
			broken[x.breaks(p)] = true
		}
		want := uint8(api.KnownOpen)
		if len(broken) == 1 {
			want = map[bool]uint8{false: api.KnownNo, true: api.KnownYes}[broken[true]]
		}
		wantRest(t, p, wholes(lefts...), wholes(losts...), want)
		if p.Kind == 1 {
			seen[want]++
		}
	}
	if seen[0] < 500 || seen[1] < 500 || seen[2] < 500 {
		t.Error(seen)
	}
}

// wantTrue checks that what is really left, and lost, of a pack is in what is told.
func wantTrue(t *testing.T, p api.Pack, x truth) (left, lost api.Span) {
	t.Helper()
	left, lost, broken, e := load.Rest(p)
	if e != api.OK || !inside(x.left(p), left) || !inside(x.lost(p), lost) || plus(x.left(p), x.lost(p)).Cmp(x.mass) != 0 {
		t.Fatal(p, x, left, lost, e)
	}
	if broken == api.KnownYes && !x.breaks(p) || broken == api.KnownNo && x.breaks(p) {
		t.Fatal(p, x, broken)
	}
	if p.Mass.Lo == p.Mass.Hi && (left.Lo+lost.Hi != p.Mass.Lo || left.Hi+lost.Lo != p.Mass.Lo) {
		t.Fatal("not what it weighed", p, left, lost)
	}
	return left, lost
}

// P5.8, N5: on each day of a journey what is left of each pack is in what is told, and what is lost; and there is never more left than before.
func TestJourney(t *testing.T) {
	r := rand.New(rand.NewPCG(5, 8))
	lostMore := 0
	for range 1500 {
		packs := somePacks(r, 1+r.IntN(8), 2000)
		truths := someTruths(r, packs)
		ties, _ := anyTies(r, len(packs), 1+r.IntN(3), 10)
		hurt := make([]int, len(packs))
		days := 0
		first := packs
		for range 6 {
			var jolts []api.Jolt
			for range r.IntN(3) {
				j := jolt(r.IntN(len(ties)), r.IntN(8))
				jolts = append(jolts, j)
				for _, i := range slices.Concat(ties[j.Tie].Left, ties[j.Tie].Right, ties[j.Tie].Top, ties[j.Tie].Top) {
					hurt[i] += j.Hurt
				}
			}
			gone := r.IntN(3)
			days += gone
			next, e := load.Jolted(packs, ties, jolts, gone)
			if e != api.OK || len(next) != len(packs) {
				t.Fatal(packs, ties, jolts, gone, next, e)
			}
			for i, p := range next {
				if want := with(first[i], func(p *api.Pack) { p.Hurt, p.Days = p.Hurt+hurt[i], p.Days+days }); p != want {
					t.Fatal(p, "want", want)
				}
				left, lost := wantTrue(t, p, truths[i])
				leftBefore, lostBefore := wantTrue(t, packs[i], truths[i])
				if left.Lo > leftBefore.Lo || left.Hi > leftBefore.Hi || lost.Lo < lostBefore.Lo || lost.Hi < lostBefore.Hi || truths[i].left(p).Cmp(truths[i].left(packs[i])) > 0 {
					t.Fatal("has more left", packs[i], p)
				}
				if left.Hi < leftBefore.Hi {
					lostMore++
				}
			}
			packs = next
		}
	}
	if lostMore < 1000 {
		t.Error(lostMore)
	}
}

// sumLeft is what is really left of some packs.
func sumLeft(packs []api.Pack, truths []truth, at ...[]int) *big.Rat {
	all := number(0)
	for _, l := range at {
		for _, i := range l {
			all = plus(all, truths[i].left(packs[i]))
		}
	}
	return all
}

// isBalanced tells whether a load is really balanced.
func isBalanced(packs []api.Pack, truths []truth, t api.Tied, bound int) bool {
	return new(big.Rat).Abs(less(sumLeft(packs, truths, t.Left), sumLeft(packs, truths, t.Right))).Cmp(number(bound)) <= 0
}

// known returns what is known of something that is so in some truths, and not so in some.
func known(so, not bool) uint8 {
	if so && not {
		return api.KnownOpen
	}
	return map[bool]uint8{false: api.KnownNo, true: api.KnownYes}[so]
}

// P5.3, P5.8: what is on both sides is in what is told, and a load that is balanced for sure is so in each truth.
func TestBalanceTruths(t *testing.T) {
	r := rand.New(rand.NewPCG(5, 3))
	seen := map[uint8]int{}
	for range 6000 {
		packs := somePacks(r, 2+r.IntN(8), 200)
		ties, _ := anyTies(r, len(packs), 1, 10)
		tied, bound := ties[0], r.IntN(300)
		left, right, all, e := load.Sides(packs, tied)
		balance, f := load.Balance(packs, tied, bound)
		if e != api.OK || f != api.OK {
			t.Fatal(packs, tied, e, f)
		}
		seen[balance]++
		var so, not bool
		for d := left.Lo - right.Hi; d <= left.Hi-right.Lo; d++ {
			so, not = so || d <= bound && -d <= bound, not || d > bound || -d > bound
		}
		if balance != known(so, not) {
			t.Fatal(packs, tied, bound, balance, left, right)
		}
		for range 5 {
			truths := someTruths(r, packs)
			if !inside(sumLeft(packs, truths, tied.Left), left) || !inside(sumLeft(packs, truths, tied.Right), right) || !inside(sumLeft(packs, truths, tied.Left, tied.Right, tied.Top), all) {
				t.Fatal(packs, tied, truths, left, right, all)
			}
			if is := isBalanced(packs, truths, tied, bound); is && balance == api.KnownNo || !is && balance == api.KnownYes {
				t.Fatal(packs, tied, bound, truths, balance)
			}
		}
	}
	if seen[0] < 500 || seen[1] < 500 || seen[2] < 500 {
		t.Error(seen)
	}
}

// P5.4, P5.10, N5: an animal that is ready for sure carries no more than it can, and balanced, in each truth.
func TestReadyTruths(t *testing.T) {
	r := rand.New(rand.NewPCG(5, 10))
	seen := map[uint8]int{}
	for range 6000 {
		packs := somePacks(r, 2+r.IntN(6), 200)
		ties, _ := anyTies(r, len(packs), 1, 10)
		tied, bound := ties[0], r.IntN(400)
		b, c := breed(), animal()
		b.Strong = upTo(r, 0, 1500)
		c.Water, c.Sore = upTo(r, 20000, 100000), upTo(r, 0, 300)
		can, e := camel.Carries(b, c)
		ready, f := load.Ready(b, c, packs, tied, bound)
		_, _, all, g := load.Sides(packs, tied)
		balance, h := load.Balance(packs, tied, bound)
		if e != api.OK || f != api.OK || g != api.OK || h != api.OK {
			t.Fatal(b, c, packs, tied, e, f, g, h)
		}
		seen[ready]++
		if (ready == api.KnownYes) != (balance == api.KnownYes && all.Hi <= can.Lo) || (ready == api.KnownNo) != (balance == api.KnownNo || all.Lo > can.Hi) {
			t.Fatal(b, c, packs, tied, bound, ready, can, all, balance)
		}
		for range 5 {
			truths := someTruths(r, packs)
			fit := least(number(1000), times(number(2000), times(within(r, c.Water), big.NewRat(1, 100000))), times(number(2000), times(within(r, c.Fat), big.NewRat(1, 50000))), less(number(1000), within(r, c.Sore)))
			carries := times(within(r, b.Strong), times(fit, big.NewRat(1, 1000)))
			goes := sumLeft(packs, truths, tied.Left, tied.Right, tied.Top).Cmp(carries) <= 0 && isBalanced(packs, truths, tied, bound)
			if goes && ready == api.KnownNo || !goes && ready == api.KnownYes {
				t.Fatal(b, c, packs, tied, bound, truths, carries, ready)
			}
		}
	}
	if seen[0] < 500 || seen[1] < 500 || seen[2] < 500 {
		t.Error(seen)
	}
}

// fewest returns the first of the shortest lists of packs that, on the other side, leave a load balanced for sure, and false if there is none: each list of the packs of a side is tried.
func fewest(packs []api.Pack, t api.Tied, bound int) ([]int, bool) {
	lefts := make(map[int]api.Span)
	for i, p := range packs {
		lefts[i], _, _, _ = load.Rest(p)
	}
	beside := slices.Concat(t.Left, t.Right)
	slices.Sort(beside)
	var best []int
	found := false
	var search func(at int, moved []int, lo, hi int)
	search = func(at int, moved []int, lo, hi int) {
		if at == len(beside) {
			if -bound <= lo && hi <= bound && (!found || len(moved) < len(best) || len(moved) == len(best) && slices.Compare(moved, best) < 0) {
				best, found = slices.Clone(moved), true
			}
			return
		}
		i := beside[at]
		for _, stays := range []bool{true, false} {
			then := moved
			if !stays {
				then = append(slices.Clone(moved), i)
			}
			if slices.Contains(t.Left, i) == stays {
				search(at+1, then, lo+lefts[i].Lo, hi+lefts[i].Hi)
			} else {
				search(at+1, then, lo-lefts[i].Hi, hi-lefts[i].Lo)
			}
		}
	}
	search(0, nil, 0, 0)
	return best, found
}

// moves returns a load with some packs on the other side.
func moves(t api.Tied, moved []int) api.Tied {
	var next api.Tied
	for _, i := range slices.Concat(t.Left, t.Right) {
		if slices.Contains(t.Left, i) != slices.Contains(moved, i) {
			next.Left = append(next.Left, i)
		} else {
			next.Right = append(next.Right, i)
		}
	}
	slices.Sort(next.Left)
	slices.Sort(next.Right)
	next.Top = slices.Clone(t.Top)
	return next
}

// P5.5, P5.9: Settle returns the fewest packs, and of several lists the first one.
func TestSettleTruths(t *testing.T) {
	r := rand.New(rand.NewPCG(5, 5))
	seen := map[int]int{}
	for range 4000 {
		packs := somePacks(r, 1+r.IntN(12), []int{6, 60}[r.IntN(2)])
		ties, _ := anyTies(r, len(packs), 1+r.IntN(2), 10)
		tied, bound := ties[0], r.IntN(20)
		if r.IntN(2) == 0 {
			// More has to be moved if all is on one side, and masses are known.
			for i := range packs {
				packs[i] = bale(exactly(1 + r.IntN(9)))
			}
			tied, bound = on(from(0, min(9, len(packs)-1)), nil, nil), r.IntN(3)
		}
		want, ok := fewest(packs, tied, bound)
		got, e := load.Settle(packs, tied, bound)
		if e != due(ok, api.ErrUneven) || !slices.Equal(got, want) {
			t.Fatal(packs, tied, bound, got, e, "want", want)
		}
		if !ok {
			seen[-1]++
			continue
		}
		seen[len(got)]++
		if balance, e := load.Balance(packs, moves(tied, got), bound); balance != api.KnownYes || e != api.OK {
			t.Fatal(packs, tied, bound, got, balance, e)
		}
	}
	if seen[-1] < 200 || seen[0] < 200 || seen[1] < 200 || seen[2] < 200 || seen[3] < 200 || seen[4] < 50 {
		t.Error(seen)
	}
}

// P5.6, P5.9, N5: after each exchange loads are balanced in each truth, with the fewest packs moved; and all that was there or was put is there, but what was taken away.
func TestTradeTruths(t *testing.T) {
	r := rand.New(rand.NewPCG(5, 9))
	seen := map[api.Errno]int{}
	movedSome := 0
	for range 3000 {
		packs := somePacks(r, 2+r.IntN(14), 20)
		ties, free := anyTies(r, len(packs), 1+r.IntN(3), 7)
		bound := 5 + r.IntN(40)
		for range 4 {
			off, put := anyExchange(r, ties, free)
			before := exchanged(ties, off, put)
			var want []api.Tied
			var wantMoved []int
			e := load.Check(packs, before)
			if e == api.ErrTies {
				// An animal would have more than there is room for.
				e = api.ErrPuts
			}
			for _, x := range before {
				moved, ok := fewest(packs, x, bound)
				if !ok && e == api.OK {
					e = api.ErrUneven
				}
				want, wantMoved = append(want, moves(x, moved)), append(wantMoved, moved...)
			}
			slices.Sort(wantMoved)
			if e != api.OK {
				want, wantMoved = nil, nil
			}
			next, moved, got := load.Trade(packs, ties, off, put, bound)
			if got != e || !equalTies(next, want) || !slices.Equal(moved, wantMoved) {
				t.Fatal(packs, ties, off, put, bound, next, moved, got, "want", want, wantMoved, e)
			}
			seen[e]++
			if e != api.OK {
				break
			}
			if len(moved) > 0 {
				movedSome++
			}
			truths := someTruths(r, packs)
			for _, x := range next {
				if !isBalanced(packs, truths, x, bound) {
					t.Fatal(packs, truths, x, bound)
				}
			}
			ties, free = next, untied(len(packs), next)
		}
	}
	if seen[api.OK] < 1000 || seen[api.ErrUneven] < 300 || seen[api.ErrPuts] < 20 || movedSome < 300 {
		t.Error(seen, movedSome)
	}
}

// exchanged returns loads after an exchange, before any pack is moved, place by place.
func exchanged(ties []api.Tied, off []int, on []api.Put) []api.Tied {
	var next []api.Tied
	for k, t := range ties {
		at := func(l []int, place uint8) []int {
			var packs []int
			for _, i := range l {
				if !slices.Contains(off, i) {
					packs = append(packs, i)
				}
			}
			for _, p := range on {
				if p.Tie == k && p.Place == place {
					packs = append(packs, p.Pack)
				}
			}
			slices.Sort(packs)
			return packs
		}
		next = append(next, api.Tied{Left: at(t.Left, 0), Right: at(t.Right, 1), Top: at(t.Top, 2)})
	}
	return next
}

// untied are the packs that are in no load.
func untied(packs int, ties []api.Tied) []int {
	var free []int
	for i := range packs {
		if !slices.Contains(slices.Concat(lists(ties)...), i) {
			free = append(free, i)
		}
	}
	return free
}

// stowedAt returns the loads of some animals by where each pack is, as the chapter writes it down.
func stowedAt(at []int, animals int) []api.Tied {
	ties := make([]api.Tied, animals)
	for i, place := range at {
		for k := range ties {
			if place == 2*k+1 {
				ties[k].Left = append(ties[k].Left, i)
			}
			if place == 2*k+2 {
				ties[k].Right = append(ties[k].Right, i)
			}
		}
	}
	return ties
}

// mayStow tells whether animals can carry loads that are balanced for sure.
func mayStow(packs []api.Pack, ties []api.Tied, cans []int, bound int) bool {
	for k, t := range ties {
		_, _, all, e := load.Sides(packs, t)
		balance, f := load.Balance(packs, t, bound)
		if e != api.OK || f != api.OK || balance != api.KnownYes || all.Hi > cans[k] {
			return false
		}
	}
	return true
}

// mostWorth returns the best way to stow: all ways are tried, in their order.
func mostWorth(packs []api.Pack, cans, worths []int, bound int) ([]api.Tied, int) {
	at := make([]int, len(packs))
	best, most := stowedAt(at, len(cans)), 0
	for {
		worth := 0
		for i, place := range at {
			if place > 0 {
				worth += worths[i]
			}
		}
		if ties := stowedAt(at, len(cans)); worth > most && mayStow(packs, ties, cans, bound) {
			best, most = ties, worth
		}
		i := len(at) - 1
		for ; i >= 0 && at[i] == 2*len(cans); i-- {
			at[i] = 0
		}
		if i < 0 {
			return best, most
		}
		at[i]++
	}
}

// someStow returns packs with what they are worth, animals and a bound.
func someStow(r *rand.Rand, most int) (packs []api.Pack, cans, worths []int, bound int) {
	packs = somePacks(r, r.IntN(most+1), 30)
	for range r.IntN(3) {
		cans = append(cans, r.IntN(80))
	}
	for range packs {
		worths = append(worths, r.IntN(5))
	}
	return packs, cans, worths, r.IntN(25)
}

// P5.7, P5.11: no other way to stow is worth more, and none that is worth as much is before it.
func TestStowTruths(t *testing.T) {
	r := rand.New(rand.NewPCG(5, 11))
	tied := map[int]int{}
	for range 1200 {
		packs, cans, worths, bound := someStow(r, 5)
		want, most := mostWorth(packs, cans, worths, bound)
		ties, worth, e := load.Stow(packs, cans, worths, bound)
		if !equalTies(ties, want) || worth != most || e != api.OK {
			t.Fatal(packs, cans, worths, bound, ties, worth, e, "want", want, most)
		}
		if load.Check(packs, ties) != api.OK || !mayStow(packs, ties, cans, bound) {
			t.Fatal(packs, cans, worths, bound, ties)
		}
		tied[len(slices.Concat(lists(ties)...))]++
	}
	if tied[0] < 50 || tied[1] < 50 || tied[2] < 50 || tied[3] < 50 || tied[4] < 20 {
		t.Error(tied)
	}
}

// P5.11: with a wider bound, or with stronger animals, packs are worth no less.
func TestStowMore(t *testing.T) {
	r := rand.New(rand.NewPCG(5, 12))
	gained := map[string]int{}
	for range 1500 {
		packs, cans, worths, bound := someStow(r, 6)
		_, before, _ := load.Stow(packs, cans, worths, bound)
		stronger := slices.Clone(cans)
		for k := range stronger {
			stronger[k] += r.IntN(30)
		}
		_, wide, _ := load.Stow(packs, cans, worths, bound+r.IntN(20))
		_, strong, _ := load.Stow(packs, stronger, worths, bound)
		if wide < before || strong < before {
			t.Fatal(packs, cans, worths, bound, before, wide, strong)
		}
		if wide > before {
			gained["wide"]++
		}
		if strong > before {
			gained["strong"]++
		}
	}
	if gained["wide"] < 50 || gained["strong"] < 50 {
		t.Error(gained)
	}
}

// narrower returns a span in another one.
func narrower(r *rand.Rand, s api.Span) api.Span {
	return upTo(r, s.Lo, s.Hi)
}

func holds(wide, narrow api.Span) bool { return wide.Lo <= narrow.Lo && narrow.Hi <= wide.Hi }

// P5.11: with a pack that is known better all is known no worse.
func TestKnownBetter(t *testing.T) {
	r := rand.New(rand.NewPCG(5, 13))
	better := map[string]int{}
	for range 3000 {
		packs, cans, worths, bound := someStow(r, 6)
		if len(packs) == 0 {
			continue
		}
		i := r.IntN(len(packs))
		known := slices.Clone(packs)
		known[i] = with(packs[i], func(p *api.Pack) {
			p.Mass, p.Hard, p.Crumbs, p.Leak = narrower(r, p.Mass), narrower(r, p.Hard), narrower(r, p.Crumbs), narrower(r, p.Leak)
		})
		left, lost, broken, _ := load.Rest(packs[i])
		left2, lost2, broken2, e := load.Rest(known[i])
		if e != api.OK || !holds(left, left2) || !holds(lost, lost2) || broken != broken2 && broken != api.KnownOpen {
			t.Fatal(packs[i], known[i], left, left2, lost, lost2, broken, broken2)
		}
		ties, _ := anyTies(r, len(packs), 1, 10)
		tied := ties[0]
		l, m, n, _ := load.Sides(packs, tied)
		l2, m2, n2, _ := load.Sides(known, tied)
		balance, _ := load.Balance(packs, tied, bound)
		balance2, _ := load.Balance(known, tied, bound)
		b := with(breed(), func(b *api.Breed) { b.Strong = upTo(r, 0, 300) })
		ready, _ := load.Ready(b, animal(), packs, tied, bound)
		ready2, _ := load.Ready(b, animal(), known, tied, bound)
		if !holds(l, l2) || !holds(m, m2) || !holds(n, n2) || balance != balance2 && balance != api.KnownOpen || ready != ready2 && ready != api.KnownOpen {
			t.Fatal(packs, known[i], tied, bound, balance, balance2, ready, ready2)
		}
		settle, e := load.Settle(packs, tied, bound)
		settle2, e2 := load.Settle(known, tied, bound)
		_, worth, _ := load.Stow(packs, cans, worths, bound)
		_, worth2, _ := load.Stow(known, cans, worths, bound)
		if e == api.OK && (e2 != api.OK || len(settle2) > len(settle)) || worth2 < worth {
			t.Fatal(packs, known[i], tied, bound, settle, settle2, e, e2, worth, worth2)
		}
		for name, is := range map[string]bool{"balance": balance2 != balance, "ready": ready2 != ready, "settle": e2 != e, "stow": worth2 > worth} {
			if is {
				better[name]++
			}
		}
	}
	for _, name := range []string{"balance", "ready", "settle", "stow"} {
		if better[name] < 50 {
			t.Error(name, better)
		}
	}
}
