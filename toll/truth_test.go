package toll_test

import (
	"math/rand/v2"
	"slices"
	"testing"

	"azalai/api"
	"azalai/way"
)

// P7.1: the holder on each day, and all disputes.
func TestHoldersAndDisputes(t *testing.T) {
	r := rand.New(rand.NewPCG(7, 1))
	changes, pairs := 0, 0
	for range 1000 {
		j, _ := someJourney(r)
		from := max(0, j.day-12)
		for leg := range j.l.Legs {
			before := -1
			for day := from; day <= min(100000, from+window+15); day++ {
				want := holderOf(j.c, leg, day)
				j.wantHolder(t, leg, day, want)
				if want != before {
					before, changes = want, changes+1
				}
			}
		}
		var want [][2]int
		for i, a := range j.c.Claims {
			for k, b := range j.c.Claims[:i] {
				both := false
				for day := a.From; day <= a.To; day++ {
					both = both || b.From <= day && day <= b.To
				}
				if a.Leg == b.Leg && a.Tribe != b.Tribe && both {
					want = append(want, [2]int{k, i})
				}
			}
		}
		slices.SortFunc(want, func(a, b [2]int) int { return slices.Compare(a[:], b[:]) })
		j.wantDisputes(t, want...)
		pairs += len(want)
		if t.Failed() {
			t.FailNow()
		}
	}
	if changes < 1000 || pairs < 500 {
		t.Error(changes, pairs)
	}
}

// P7.2, P7.6: what is barred may be broken on some day, and what is not may not.
func TestBarredDays(t *testing.T) {
	r := rand.New(rand.NewPCG(7, 2))
	whys, places := [4]int{}, [4]int{}
	for range 5000 {
		j, stops := someJourney(r)
		why, at := barredBy(j, stops, nil)
		j.wantBarred(t, why, at)
		whys[why]++
		places[at]++
		if t.Failed() {
			t.FailNow()
		}
	}
	if slices.Min(whys[:]) < 300 || places[1] < 300 || places[2] < 100 {
		t.Error(whys, places)
	}
}

// P7.3, P7.7: the least and the greatest that each tribe gets on some day, and that is paid on each leg on some day.
func TestDueDays(t *testing.T) {
	r := rand.New(rand.NewPCG(7, 3))
	several, wide := 0, 0
	for range 5000 {
		j, stops := someJourney(r)
		tolls, all := dueOn(j, stops)
		j.wantDue(t, all, tolls...)
		if t.Failed() {
			t.FailNow()
		}
		if len(tolls) > 2 {
			several++
		}
		if all.Lo < all.Hi {
			wide++
		}
	}
	if several < 200 || wide < 500 {
		t.Error(several, wide)
	}
}

// P7.4, P7.8: no other guides that will do are cheaper, fewer, or come before those that are hired.
func TestHireTruths(t *testing.T) {
	r := rand.New(rand.NewPCG(7, 4))
	sizes, barred := [5]int{}, 0
	for range 5000 {
		j, stops := someJourney(r)
		best, ok := hiredFor(j, stops)
		if !ok {
			if guides, rials, e := j.hire(); len(guides) != 0 || rials != 0 || e != api.ErrBarred {
				t.Fatalf("%+v: %v %v %v", j, guides, rials, e)
			}
			barred++
			continue
		}
		j.wantHired(t, best.rials, best.guides...)
		if t.Failed() {
			t.FailNow()
		}
		sizes[len(best.guides)]++
		// With the guides the way is not barred.
		j.t.Guides = slices.Compact(slices.Sorted(slices.Values(slices.Concat(j.t.Guides, best.guides))))
		j.wantBarred(t, api.BarNot, 0)
	}
	if sizes[0] < 1000 || sizes[1] < 200 || sizes[2] < 10 || barred < 1000 {
		t.Error(sizes, barred)
	}
}

// P7.5, P7.8: no other way is cheaper, or as cheap and before it.
func TestCheapestTruths(t *testing.T) {
	r := rand.New(rand.NewPCG(7, 5))
	seen, later, hired := map[api.Errno]int{}, 0, 0
	for range 5000 {
		j, _ := someJourney(r)
		ways, e := way.Ways(j.l, j.from, j.to, j.day, j.until, j.pace)
		if e != api.OK {
			t.Fatal(e)
		}
		best, guides, rials := -1, []int(nil), 0
		for i, legs := range ways {
			stops, _, _ := way.Walk(j.l, j.from, j.day, j.pace, legs)
			crew, ok := hiredFor(j, stops)
			if !ok {
				continue
			}
			if _, all := dueOn(j, stops); best < 0 || all.Hi+crew.rials < rials {
				best, guides, rials = i, crew.guides, all.Hi+crew.rials
			}
		}
		if best < 0 {
			if l, g, n, e := j.cheapest(); len(l) != 0 || len(g) != 0 || n != 0 || e != api.ErrBarred {
				t.Fatalf("%+v: %v %v %v %v", j, l, g, n, e)
			}
			seen[api.ErrBarred]++
			continue
		}
		j.wantCheapest(t, ways[best], guides, rials)
		if t.Failed() {
			t.FailNow()
		}
		seen[api.OK]++
		later += min(best, 1)
		hired += min(len(guides), 1)
	}
	if seen[api.OK] < 1000 || seen[api.ErrBarred] < 500 || later < 300 || hired < 100 {
		t.Error(seen, later, hired)
	}
}

// trueGate is from when to when a gate really is open.
type trueGate struct{ opens, shuts int }

// trulyAny takes a number of a span.
func trulyAny(r *rand.Rand, s api.Span) int {
	switch r.IntN(4) {
	case 0:
		return s.Lo
	case 1:
		return s.Hi
	}
	return s.Lo + r.IntN(s.Hi-s.Lo+1)
}

// trueDays are the days on which a troop really leaves for each leg, and those on which it arrives: it leaves as soon as it can.
func trueDays(r *rand.Rand, j journey) (leaves, arrives []int) {
	gates := map[int]trueGate{}
	for _, leg := range j.legs {
		g := j.l.Legs[leg].Gates[0]
		if _, ok := gates[leg]; !ok {
			gates[leg] = trueGate{trulyAny(r, g.Opens), trulyAny(r, g.Shuts)}
		}
	}
	day := j.day
	for _, leg := range j.legs {
		days := 0
		for long, pace := trulyAny(r, j.l.Legs[leg].Long), trulyAny(r, j.pace); long > 0; long -= pace {
			days++
		}
		day = max(day, gates[leg].opens)
		if day+days-1 > gates[leg].shuts {
			panic("a way that is sure is not gone")
		}
		leaves, arrives = append(leaves, day), append(arrives, day+days)
		day += days
	}
	return leaves, arrives
}

// P7.6, N7: on a way that is not barred, no leg is closed on a day on which one is on it, no holder is at feud with the troop, and each one that wants a guide has one.
func TestObeyed(t *testing.T) {
	r := rand.New(rand.NewPCG(7, 6))
	open, broken := 0, 0
	for range 5000 {
		j, stops := someJourney(r)
		why, at, e := j.barred()
		if e != api.OK {
			t.Fatal(e)
		}
		if why == api.BarNot {
			at = len(stops)
		}
		for range 4 {
			leaves, arrives := trueDays(r, j)
			for i, s := range stops {
				for day := leaves[i]; day < arrives[i]; day++ {
					w := brokenOn(j.c, j.t, nil, s.Leg, day)
					if i < at && w != 0 || i == at && w != 0 && w < why {
						t.Fatalf("%+v: %v %v, on the day %v at %v %v", j, why, at, day, i, w)
					}
					if w != 0 {
						broken++
					}
					open++
				}
			}
		}
	}
	if broken < 10000 || open < 10*broken/9 {
		t.Error(open, broken)
	}
}

// toldOf returns what is told of a tribe on a leg.
func toldOf(tolls []api.Toll, at, tribe int) api.Span {
	for _, x := range tolls {
		if x.Leg == at && x.Tribe == tribe {
			return x.Rials
		}
	}
	return api.Span{}
}

func inside(n int, s api.Span) bool { return s.Lo <= n && n <= s.Hi }

// P7.7, N7: what is paid is what is told, whichever days the troop leaves on.
func TestPaid(t *testing.T) {
	r := rand.New(rand.NewPCG(7, 7))
	paid, free := 0, 0
	for range 5000 {
		j, stops := someJourney(r)
		tolls, all, e := j.due()
		if e != api.OK {
			t.Fatal(e)
		}
		for i, x := range tolls {
			if x.Rials.Hi <= 0 || i > 0 && slices.Compare(list(x.Leg, x.Tribe), list(tolls[i-1].Leg, tolls[i-1].Tribe)) <= 0 || slices.Contains(j.t.Guests, x.Tribe) {
				t.Fatalf("%+v: %v", j, tolls)
			}
		}
		for range 4 {
			leaves, _ := trueDays(r, j)
			total := 0
			for at, s := range stops {
				tribe, rials := paidOn(j.c, j.t, s.Leg, leaves[at])
				for other := range 8 {
					got := 0
					if other == tribe {
						got = rials
					}
					if !inside(got, toldOf(tolls, at, other)) {
						t.Fatalf("%+v: %v, leaves on %v, %v gets %v", j, tolls, leaves, other, got)
					}
				}
				total += rials
			}
			if !inside(total, all) {
				t.Fatalf("%+v: %v, leaves on %v, pays %v", j, all, leaves, total)
			}
			if total > 0 {
				paid++
			} else {
				free++
			}
		}
	}
	if paid < 5000 || free < 1000 {
		t.Error(paid, free)
	}
}

// P7.9: with more guests nothing more is due, and the cheapest way costs no more.
func TestMoreGuests(t *testing.T) {
	r := rand.New(rand.NewPCG(7, 9))
	less := 0
	for range 4000 {
		j, stops := someJourney(r)
		k := j
		k.t.Guests = slices.Compact(slices.Sorted(slices.Values(append(someTribes(r, 3), j.t.Guests...))))
		tolls, all, e := j.due()
		tolls2, all2, f := k.due()
		if e != api.OK || f != api.OK || all2.Lo > all.Lo || all2.Hi > all.Hi {
			t.Fatalf("%+v: %v %v, with %v %v %v", j, all, e, k.t.Guests, all2, f)
		}
		for at := range stops {
			for tribe := range 8 {
				if a, b := toldOf(tolls, at, tribe), toldOf(tolls2, at, tribe); b.Lo > a.Lo || b.Hi > a.Hi {
					t.Fatalf("%+v: %v, with %v %v", j, tolls, k.t.Guests, tolls2)
				}
			}
		}
		_, _, n, e := j.cheapest()
		_, _, m, f := k.cheapest()
		if e != f || m > n {
			t.Fatalf("%+v: %v %v, with %v %v %v", j, n, e, k.t.Guests, m, f)
		}
		if all2.Hi < all.Hi {
			less++
		}
		// Who is a guest of all pays nothing.
		k.t.Guests = list(0, 1, 2, 3, 4, 5, 6, 7)
		k.wantDue(t, api.Span{})
		why, at := barredBy(j, stops, nil)
		k.wantBarred(t, why, at)
	}
	if less < 500 {
		t.Error(less)
	}
}

// P7.9: with no claims, feuds and borders all is free; feuds alone bar nothing.
func TestNoCustoms(t *testing.T) {
	r := rand.New(rand.NewPCG(7, 10))
	for range 2000 {
		j, _ := someJourney(r)
		for _, feuds := range [][]api.Feud{nil, j.c.Feuds} {
			j.c = api.Custom{Feuds: feuds}
			j.wantBarred(t, api.BarNot, 0)
			j.wantDue(t, api.Span{})
			j.wantHired(t, 0)
			j.wantDisputes(t)
			j.wantHolder(t, 0, j.day, -1)
			if ways, _ := way.Ways(j.l, j.from, j.to, j.day, j.until, j.pace); len(ways) > 0 {
				j.wantCheapest(t, ways[0], nil, 0)
			}
		}
	}
}

// fewer returns a list without some of its numbers.
func fewer(r *rand.Rand, l []int) []int {
	return slices.DeleteFunc(slices.Clone(l), func(int) bool { return r.IntN(2) == 0 })
}

// P7.9: a troop of fewer tribes is not barred by a feud where one of more is not.
func TestFewerTribes(t *testing.T) {
	r := rand.New(rand.NewPCG(7, 11))
	fewest, freed := 0, 0
	for range 10000 {
		j, stops := someJourney(r)
		k := j
		k.t.People, k.t.Guides = fewer(r, j.t.People), fewer(r, j.t.Guides)
		if r.IntN(2) == 0 {
			k.t.Guides = j.t.Guides
		}
		why, at, e := j.barred()
		why2, at2, f := k.barred()
		if e != api.OK || f != api.OK {
			t.Fatal(e, f)
		}
		if why == api.BarNot {
			at = len(stops)
		}
		if why2 == api.BarFeud && at2 < at {
			t.Fatalf("%+v: %v %v, with %+v %v %v", j, why, at, k.t, why2, at2)
		}
		if why == api.BarFeud && why2 != api.BarFeud {
			freed++
		}
		if why == api.BarNot && why2 == api.BarNot {
			fewest++
		}
	}
	if fewest < 500 || freed < 100 {
		t.Error(fewest, freed)
	}
}
