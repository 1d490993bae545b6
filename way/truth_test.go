package way_test

import (
	"cmp"
	"math/rand/v2"
	"slices"
	"testing"

	"azalai/api"
	"azalai/way"
)

// pick tells how near to its bad end the truth is in a span, from 0 to sixths.
type pick func() int

const sixths = 6

func best() int { return 0 }

func worst() int { return sixths }

// anywhere takes numbers that are mostly not whole, and often at an end.
func anywhere(r *rand.Rand) pick {
	return func() int { return []int{0, 0, 1, 2, 3, 4, 5, sixths, sixths}[r.IntN(9)] }
}

// of returns the sixths of the number between a good end and a bad one that is true.
func (p pick) of(good, bad int) int { return sixths*good + p()*(bad-good) }

// open is from when to when a leg really is open, by each of its gates.
func (p pick) open(gates []api.Gate) [][2]int {
	var l [][2]int
	for _, g := range gates {
		l = append(l, [2]int{p.of(g.Opens.Lo, g.Opens.Hi) / sixths, p.of(g.Shuts.Hi, g.Shuts.Lo) / sixths})
	}
	return l
}

// days returns how many days a leg really takes, this time: each day is gone after the other.
func (p pick) days(leg api.Leg, pace api.Span) int {
	rest, days := p.of(leg.Long.Lo, leg.Long.Hi), 0
	for step := p.of(pace.Hi, pace.Lo); rest > 0; rest -= step {
		days++
	}
	return days
}

// isOpen tells whether a leg is open on all of so many days, by one gate.
func isOpen(open [][2]int, day, days int) bool {
	return slices.ContainsFunc(open, func(g [2]int) bool { return g[0] <= day && day+days-1 <= g[1] })
}

// The random lands have gates on few days, from the day 0 on, or until MaxDay, so that one often comes too late.

const window = 60

func within(r *rand.Rand, lo, hi int) api.Span {
	a := lo + r.IntN(hi-lo+1)
	if r.IntN(3) == 0 {
		return exactly(a)
	}
	return span(a, a+r.IntN(hi-a+1))
}

func someGates(r *rand.Rand, from int) []api.Gate {
	var gates []api.Gate
	for day := from + r.IntN(12); len(gates) < 6 && r.IntN(8) > 0; {
		opens, shuts := within(r, day, day+4), within(r, day-3, day+20)
		if g := gate(opens, span(max(0, shuts.Lo), min(shuts.Hi, 100000))); g.Opens.Hi <= 100000 && g.Opens.Lo <= g.Shuts.Hi && g.Shuts.Lo <= g.Shuts.Hi {
			gates = append(gates, g)
			day = g.Shuts.Hi + 1 + r.IntN(4)
		} else {
			break
		}
	}
	return gates
}

// someLand returns a land, from when on its gates are, and a pace at which a leg takes 1 to 8 days.
func someLand(r *rand.Rand, wells, legs int) (l api.Land, from int, pace api.Span) {
	from = r.IntN(2) * (100000 - window)
	l = paths(wells)
	for range legs {
		a := r.IntN(wells)
		b := (a + 1 + r.IntN(wells-1)) % wells
		l.Legs = append(l.Legs, leg(a, b, within(r, 1, 12+r.IntN(30)), someGates(r, from)...))
	}
	if r.IntN(3) > 0 {
		for i := range l.Legs {
			if r.IntN(2) == 0 {
				l.Legs[i].Gates = []api.Gate{gate(within(r, from, from+9), within(r, from+9, from+window))}
			}
		}
	}
	return l, from + r.IntN(20), within(r, 6, 12)
}

// daysOf tells on which days one really may be at each well, by whatever way: day by day one stays, or leaves.
func daysOf(l api.Land, from, day int, pace api.Span, p pick) []int {
	firsts := slices.Repeat([]int{100001}, len(l.Wells))
	there := map[[2]int]bool{{from, day}: true}
	for ; day <= 100000 && day <= 4*window || day > 100000-2*window && day <= 100000; day++ {
		for well := range l.Wells {
			if !there[[2]int{well, day}] {
				continue
			}
			firsts[well] = min(firsts[well], day)
			there[[2]int{well, day + 1}] = true
			for _, leg := range l.Legs {
				days := p.days(leg, pace)
				if leg.From == well && isOpen(p.open(leg.Gates), day, days) {
					there[[2]int{leg.To, day + days}] = true
				}
				if leg.To == well && isOpen(p.open(leg.Gates), day, days) {
					there[[2]int{leg.From, day + days}] = true
				}
			}
		}
	}
	return firsts
}

// P3.2, P3.8: each end of Reach is reached, and no day before it: in the best truth the first one, in the worst truth the last one.
func TestReachTruths(t *testing.T) {
	r := rand.New(rand.NewPCG(3, 2))
	seen := map[string]int{}
	for range 1500 {
		l, day, pace := someLand(r, 2+r.IntN(4), r.IntN(8))
		from := r.IntN(len(l.Wells))
		got, e := way.Reach(l, from, day, pace)
		early, late := daysOf(l, from, day, pace, best), daysOf(l, from, day, pace, worst)
		if e != api.OK || len(got) != len(l.Wells) {
			t.Fatal(l, from, day, pace, got, e)
		}
		for well, s := range got {
			if s != span(early[well], late[well]) {
				t.Fatal(l, from, day, pace, got, early, late)
			}
			switch {
			case s.Lo == 100001:
				seen["never"]++
			case s.Hi == 100001:
				seen["perhaps"]++
			case s.Lo < s.Hi:
				seen["open"]++
			}
		}
	}
	if seen["never"] < 100 || seen["perhaps"] < 100 || seen["open"] < 100 {
		t.Error(seen)
	}
}

// trulyGone checks that a caravan goes a way, within what is told, in a truth.
func trulyGone(t *testing.T, l api.Land, day int, pace api.Span, legs []int, stops []api.Stop, p pick) {
	t.Helper()
	open := make([][][2]int, len(l.Legs))
	for i, leg := range l.Legs {
		open[i] = p.open(leg.Gates)
	}
	if len(stops) != len(legs) {
		t.Fatal(l, day, pace, legs, stops)
	}
	for i, leg := range legs {
		days := p.days(l.Legs[leg], pace)
		for !isOpen(open[leg], day, days) {
			if day++; day > stops[i].Leaves.Hi {
				t.Fatal("does not leave", l, pace, legs, stops, i, day, days, open[leg])
			}
		}
		if s := stops[i].Leaves; day < s.Lo || day > s.Hi {
			t.Fatal("leaves", l, pace, legs, stops, i, day)
		}
		day += days
		if s := stops[i].Arrives; day < s.Lo || day > s.Hi || day > 100000 {
			t.Fatal("arrives", l, pace, legs, stops, i, day)
		}
	}
}

// someLegs returns a way from a well, or what is nearly one.
func someLegs(r *rand.Rand, l api.Land, well int) []int {
	var legs []int
	for range 5 {
		for _, i := range r.Perm(len(l.Legs)) {
			if leg := l.Legs[i]; leg.From == well || leg.To == well {
				legs, well = append(legs, i), leg.From+leg.To-well
				break
			}
		}
		if r.IntN(3) == 0 {
			break
		}
	}
	return legs
}

// P3.7, N3: a way that is sure is gone, whatever is true, on the days that are told; one that is not is not gone at last, or not until MaxDay.
func TestWalkTruths(t *testing.T) {
	r := rand.New(rand.NewPCG(3, 7))
	seen := map[api.Errno]int{}
	for range 4000 {
		l, day, pace := someLand(r, 2+r.IntN(3), 1+r.IntN(6))
		from := r.IntN(len(l.Wells))
		legs := someLegs(r, l, from)
		stops, at, e := way.Walk(l, from, day, pace, legs)
		seen[e]++
		if e == api.ErrShut {
			if len(stops) != 0 {
				t.Fatal(stops)
			}
			if stops, _, e = way.Walk(l, from, day, pace, legs[:at]); e != api.OK {
				t.Fatal(l, from, day, pace, legs, at, e)
			}
			since := day
			if at > 0 {
				since = stops[at-1].Arrives.Hi
			}
			leg := l.Legs[legs[at]]
			for days := pick(worst).days(leg, pace); since <= 100000; since++ {
				if isOpen(pick(worst).open(leg.Gates), since, days) && since+days <= 100000 {
					t.Fatal(l, from, day, pace, legs, at, since)
				}
			}
			legs = legs[:at]
		}
		if e != api.OK {
			t.Fatal(l, from, day, pace, legs, at, e)
		}
		for _, p := range []pick{best, worst, anywhere(r), anywhere(r), anywhere(r)} {
			trulyGone(t, l, day, pace, legs, stops, p)
		}
		// Both ends come true.
		for _, s := range stops {
			days, e := way.Days(l, s.Leg, pace)
			if e != api.OK || days != span(pick(best).days(l.Legs[s.Leg], pace), pick(worst).days(l.Legs[s.Leg], pace)) || s.Arrives != span(s.Leaves.Lo+days.Lo, s.Leaves.Hi+days.Hi) {
				t.Fatal(l, pace, s, days, e)
			}
		}
	}
	if seen[api.OK] < 500 || seen[api.ErrShut] < 500 {
		t.Error(seen)
	}
}

// tried is a way with its last arrival.
type tried struct {
	legs    []int
	arrives int
}

// allWays returns all sure ways to a well of a few legs, in order, by trying all lists of legs; once tells if no well may be visited twice.
func allWays(l api.Land, from, to, day int, pace api.Span, most int, once bool) []tried {
	var all []tried
	var try func(legs []int)
	try = func(legs []int) {
		stops, _, e := way.Walk(l, from, day, pace, legs)
		if e != api.OK {
			return
		}
		visited, arrives := []int{from}, day
		for _, s := range stops {
			if once && slices.Contains(visited, s.Well) {
				return
			}
			visited, arrives = append(visited, s.Well), s.Arrives.Hi
		}
		if visited[len(legs)] == to {
			all = append(all, tried{slices.Clone(legs), arrives})
		}
		if len(legs) < most {
			for leg := range l.Legs {
				try(append(legs, leg))
			}
		}
	}
	try(nil)
	return all
}

// P3.5, P3.8: no way that is sure until a day is left out, and no other one is told.
func TestWaysTruths(t *testing.T) {
	r := rand.New(rand.NewPCG(3, 5))
	sizes := map[int]int{}
	for range 1500 {
		l, day, pace := someLand(r, 2+r.IntN(3), r.IntN(7))
		from, to := r.IntN(len(l.Wells)), r.IntN(len(l.Wells))
		until := min(100000, day-1+r.IntN(window))
		var want [][]int
		for _, w := range allWays(l, from, to, day, pace, len(l.Wells)-1, true) {
			if w.arrives <= until {
				want = append(want, w.legs)
			}
		}
		got, e := way.Ways(l, from, to, day, until, pace)
		if !equalWays(got, want) || e != due(until >= 0, api.ErrArg) {
			t.Fatal(l, from, to, day, until, pace, got, e, want)
		}
		sizes[len(got)]++
	}
	if len(sizes) < 6 {
		t.Error(sizes)
	}
}

// P3.4, P3.8: no way is surer; of several ones it is that of the fewest legs, and of these the first one.
func TestSurestTruths(t *testing.T) {
	r := rand.New(rand.NewPCG(3, 4))
	sizes := map[int]int{}
	for range 2000 {
		l, day, pace := someLand(r, 2+r.IntN(3), 1+r.IntN(7))
		// Where a leg opens late, it does not matter how one came there.
		late := exactly(day + 15 + r.IntN(10))
		if i := r.IntN(len(l.Legs)); late.Lo < 100000 {
			l.Legs[i].Gates = []api.Gate{gate(late, exactly(min(100000, late.Lo+20)))}
		}
		from, to := r.IntN(len(l.Wells)), r.IntN(len(l.Wells))
		all := allWays(l, from, to, day, pace, 4, false)
		got, e := way.Surest(l, from, to, day, pace)
		if len(all) == 0 {
			if len(got) != 0 || e != api.ErrNone {
				t.Fatal(l, from, to, day, pace, got, e)
			}
			continue
		}
		want := slices.MinFunc(all, func(a, b tried) int {
			return cmp.Or(cmp.Compare(a.arrives, b.arrives), cmp.Compare(len(a.legs), len(b.legs)), slices.Compare(a.legs, b.legs))
		})
		reach, _ := way.Reach(l, from, day, pace)
		if !slices.Equal(got, want.legs) || e != api.OK || reach[to].Hi != want.arrives {
			t.Fatal(l, from, to, day, pace, got, e, want, reach)
		}
		sizes[len(got)]++
	}
	if sizes[1] < 100 || sizes[2] < 50 || sizes[3] < 10 {
		t.Error(sizes)
	}
}

func inside(a, b api.Span) bool { return b.Lo <= a.Lo && a.Hi <= b.Hi }

func later(a, b api.Span) bool { return a.Lo > b.Lo || a.Hi > b.Hi }

// narrowed returns a span in another one.
func narrowed(r *rand.Rand, s api.Span) api.Span {
	if r.IntN(2) == 0 {
		return s
	}
	lo := s.Lo + r.IntN(s.Hi-s.Lo+1)
	return span(lo, lo+r.IntN(s.Hi-lo+1))
}

// better returns a land of which more is known.
func better(r *rand.Rand, l api.Land) api.Land {
	known := api.Land{Wells: slices.Clone(l.Wells)}
	for i := range known.Wells {
		known.Wells[i].Yield, known.Wells[i].Has = narrowed(r, known.Wells[i].Yield), narrowed(r, known.Wells[i].Has)
	}
	for _, old := range l.Legs {
		next := leg(old.From, old.To, narrowed(r, old.Long))
		for _, g := range old.Gates {
			better := gate(narrowed(r, g.Opens), narrowed(r, g.Shuts))
			if better.Opens.Lo > better.Shuts.Hi {
				better = g
			}
			next.Gates = append(next.Gates, better)
		}
		known.Legs = append(known.Legs, next)
	}
	return known
}

// P3.9: what is known better is told no wider.
func TestKnownBetter(t *testing.T) {
	r := rand.New(rand.NewPCG(3, 9))
	narrower := 0
	for range 2000 {
		l, day, pace := someLand(r, 2+r.IntN(3), 1+r.IntN(6))
		l2, pace2 := better(r, l), narrowed(r, pace)
		from, i := r.IntN(len(l.Wells)), r.IntN(len(l.Legs))
		if e := way.Check(l2); e != api.OK {
			t.Fatal(l2, e)
		}
		days, _ := way.Days(l, i, pace)
		days2, _ := way.Days(l2, i, pace2)
		leave, _ := way.Leave(l, i, day, pace)
		leave2, _ := way.Leave(l2, i, day, pace2)
		if !inside(days2, days) || !inside(leave2, leave) {
			t.Fatal(l, l2, i, days, days2, leave, leave2)
		}
		reach, _ := way.Reach(l, from, day, pace)
		reach2, _ := way.Reach(l2, from, day, pace2)
		for well := range reach {
			if !inside(reach2[well], reach[well]) {
				t.Fatal(l, l2, from, day, well, reach, reach2)
			}
			if reach2[well] != reach[well] {
				narrower++
			}
		}
		legs := someLegs(r, l, from)
		stops, _, e := way.Walk(l, from, day, pace, legs)
		stops2, _, f := way.Walk(l2, from, day, pace2, legs)
		if e != api.OK {
			continue
		}
		if f != api.OK || !slices.EqualFunc(stops2, stops, func(a, b api.Stop) bool { return inside(a.Leaves, b.Leaves) && inside(a.Arrives, b.Arrives) }) {
			t.Fatal(l, l2, legs, stops, stops2, f)
		}
	}
	if narrower < 500 {
		t.Error(narrower)
	}
}

// P3.9: who is faster, or begins earlier, is nowhere later.
func TestFasterOrEarlier(t *testing.T) {
	r := rand.New(rand.NewPCG(4, 9))
	earlier := 0
	for range 2000 {
		l, day, pace := someLand(r, 2+r.IntN(3), 1+r.IntN(6))
		from, to := r.IntN(len(l.Wells)), r.IntN(len(l.Wells))
		fast, soon := pace, max(0, day-r.IntN(8))
		if r.IntN(2) == 0 {
			up := r.IntN(9)
			fast, soon = span(pace.Lo+up, pace.Hi+up+r.IntN(5)), day
		}
		reach, _ := way.Reach(l, from, day, pace)
		reach2, _ := way.Reach(l, from, soon, fast)
		for well := range reach {
			if later(reach2[well], reach[well]) {
				t.Fatal(l, from, day, pace, reach, soon, fast, reach2)
			}
			if reach2[well] != reach[well] && well != from {
				earlier++
			}
		}
		legs := someLegs(r, l, from)
		stops, _, e := way.Walk(l, from, day, pace, legs)
		stops2, _, f := way.Walk(l, from, soon, fast, legs)
		if e == api.OK && (f != api.OK || slices.ContainsFunc(legs, func(int) bool { return later(stops2[len(legs)-1].Arrives, stops[len(legs)-1].Arrives) })) {
			t.Fatal(l, from, legs, day, pace, stops, soon, fast, stops2, f)
		}
		until := min(100000, day+r.IntN(window))
		ways, _ := way.Ways(l, from, to, day, until, pace)
		ways2, _ := way.Ways(l, from, to, soon, until, fast)
		for _, legs := range ways {
			if !slices.ContainsFunc(ways2, func(l []int) bool { return slices.Equal(l, legs) }) {
				t.Fatal(l, from, to, day, pace, ways, soon, fast, ways2)
			}
		}
	}
	if earlier < 500 {
		t.Error(earlier)
	}
}

// pours returns all amounts that a well may have in the morning of a day, and the place of the first draw for which there is too little in all truths: each yield of each day, and then the draws of the day.
func pours(w api.Well, well int, draws []api.Draw, day int) (has map[int]bool, dry int) {
	has = map[int]bool{}
	for n := w.Has.Lo; n <= w.Has.Hi; n++ {
		has[n] = true
	}
	for today := range day {
		filled := map[int]bool{}
		for n := range has {
			for come := w.Yield.Lo; come <= w.Yield.Hi; come++ {
				filled[min(w.Room, n+come)] = true
			}
		}
		has = filled
		for i, d := range draws {
			if d.Well != well || d.Day != today {
				continue
			}
			left := map[int]bool{}
			for n := range has {
				if n >= d.Water {
					left[n-d.Water] = true
				}
			}
			if has = left; len(has) == 0 {
				return nil, i
			}
		}
	}
	return has, -1
}

// P3.6, P3.10: what a well may have is told, and nothing else: in each truth what was drawn was there, and what it has is what it had, and what came, less what was drawn, and what ran over.
func TestWaterTruths(t *testing.T) {
	r := rand.New(rand.NewPCG(3, 10))
	seen := map[api.Errno]int{}
	for range 4000 {
		l := paths(1 + r.IntN(2))
		for i := range l.Wells {
			room := r.IntN(16)
			l.Wells[i] = api.Well{Room: room, Has: within(r, 0, room), Yield: within(r, 0, r.IntN(6))}
		}
		well, day := r.IntN(len(l.Wells)), r.IntN(9)
		draws := make([]api.Draw, r.IntN(6))
		for i := range draws {
			draws[i] = draw(r.IntN(len(l.Wells)), r.IntN(10), r.IntN(12))
		}
		slices.SortStableFunc(draws, func(a, b api.Draw) int { return cmp.Compare(a.Day, b.Day) })
		has, dry := pours(l.Wells[well], well, draws, day)
		s, at, e := way.Water(l, well, draws, day)
		seen[e]++
		if dry >= 0 {
			if s != span(0, 0) || at != dry || e != api.ErrDry {
				t.Fatal(l, well, draws, day, s, at, e, dry)
			}
			continue
		}
		if e != api.OK || at != 0 || len(has) != s.Hi-s.Lo+1 || !has[s.Lo] || !has[s.Hi] {
			t.Fatal(l, well, draws, day, s, at, e, has)
		}
		// P3.9.
		if s2, _, e := way.Water(better(r, l), well, draws, day); e == api.OK && !inside(s2, s) {
			t.Fatal(l, well, draws, day, s, s2)
		}
	}
	if seen[api.OK] < 1000 || seen[api.ErrDry] < 500 {
		t.Error(seen)
	}
}

// P3.10: over many days, too: one by one, as on all at once.
func TestWaterDays(t *testing.T) {
	r := rand.New(rand.NewPCG(4, 10))
	for range 300 {
		l := api.Land{Wells: []api.Well{{Room: r.IntN(2000), Yield: within(r, 0, 20)}}}
		l.Wells[0].Has = within(r, 0, l.Wells[0].Room)
		var draws []api.Draw
		for day := range 300 {
			s, _, e := way.Water(l, 0, draws, day)
			if e != api.OK {
				t.Fatal(l, draws, day, e)
			}
			w := l.Wells[0]
			w.Has = s
			next, _, _ := way.Water(api.Land{Wells: []api.Well{w}}, 0, nil, 1)
			if got, _, e := way.Water(l, 0, draws, day+1); got != next || e != api.OK {
				t.Fatal(l, draws, day, got, e, next)
			}
			if r.IntN(9) == 0 && len(draws) < 200 {
				draws = append(draws, draw(0, day, r.IntN(next.Hi+1)))
			}
		}
	}
}
