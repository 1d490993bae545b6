package leader_test

import (
	"math/big"
	"math/rand/v2"
	"slices"
	"strings"
	"testing"

	"azalai/api"
	"azalai/brand"
	"azalai/camel"
	"azalai/guide"
	"azalai/leader"
	"azalai/load"
	"azalai/share"
	"azalai/way"
)

// wantOften checks that each of some things was so often enough for a test to say something.
func wantOften(t *testing.T, counts map[string]int, least int, names ...string) {
	t.Helper()
	for _, name := range names {
		if counts[name] < least {
			t.Error(name, counts)
		}
	}
}

// P10.1, P10.7, N10: what commands do, by the chapter told otherwise; a company is valid after each one that is done.
func TestDoTold(t *testing.T) {
	r := rand.New(rand.NewPCG(10, 1))
	dones, ends := map[string]int{}, map[string]int{}
	for range 1000 {
		c := someCompany(r)
		for range 40 {
			word, args := someCommand(r, c)
			want := tell(c, word, args)
			next, said, e := leader.Do(c, word, args)
			if shown(next) != shown(want.c) || said != want.said || e != want.e {
				t.Fatalf("%s: %q %v %+v\nwant %+v\nof %+v", name(word, args), said, e, next, want, c)
			}
			if e != api.OK {
				reason, _, _ := strings.Cut(said, " ")
				ends[word+" "+e.Error()+" "+reason]++
				continue
			}
			if e := leader.Check(next); e != api.OK {
				t.Fatalf("%s: %v of %+v", name(word, args), e, next)
			}
			dones[word]++
			c = next
		}
	}
	wantOften(t, dones, 500, allWords...)
	wantOften(t, ends, 50, "MARCH error 102 weak", "MARCH error 102 dies", "REST error 102 dies", "MARK error 102 lost", "STAR error 102 lost", "NEAR error 102 lost", "DRINK error 102 far", "DRINK error 102 dry",
		"SETTLE error 102 uneven", "ROW error 102 tally", "LETTER error 102 two", "MARCH error 9 ", "REST error 9 ")
	wantOften(t, ends, 10, "JOLT error 9 ", "MARCH error 8 ", "REST error 8 ", "MARK error 8 ", "STAR error 8 ", "NEAR error 8 ", "DRINK error 8 ", "JOLT error 8 ", "SETTLE error 8 ", "ROW error 8 ", "LETTER error 8 ")
}

// travel does some commands, of which some are refused.
func travel(r *rand.Rand, c api.Company, commands int) api.Company {
	for range commands {
		word, args := someCommand(r, c)
		if next, _, e := leader.Do(c, word, args); e == api.OK {
			c = next
		}
	}
	return c
}

// P10.2, P10.8: what was done is done again from where it began, whatever was refused between, in one part or in two of them, also if its log was written and read.
func TestReplayTold(t *testing.T) {
	r := rand.New(rand.NewPCG(10, 2))
	for range 300 {
		first := someCompany(r)
		last := travel(r, first, r.IntN(60))
		log := last.Log[len(first.Log):]
		if shown(last.Log[:len(first.Log)]) != shown(first.Log) {
			t.Fatal("what was in the log is another one")
		}
		wantReplayed(t, first, log, last, stopped{})
		part := r.IntN(len(log) + 1)
		middle, _, _, e := leader.Replay(first, log[:part])
		if e != api.OK {
			t.Fatal(e)
		}
		wantReplayed(t, middle, log[part:], last, stopped{})
		text, e := leader.WriteLog(log)
		if e != api.OK {
			t.Fatal(e)
		}
		read, _, e := leader.ReadLog(text)
		if e != api.OK {
			t.Fatal(e)
		}
		wantReplayed(t, first, read, last, stopped{})
		if t.Failed() {
			t.FailNow()
		}
		// Another entry: the same end as by one command after the other.
		if len(log) == 0 {
			continue
		}
		other := slices.Clone(log)
		at := r.IntN(len(other))
		other[at].Word, other[at].Args = someCommand(r, first)
		other[at].Day += r.IntN(2)
		c, want := first, stopped{}
		for i, one := range other {
			next, said, e := leader.Do(c, one.Word, one.Args)
			if e == api.OK && next.Day != one.Day {
				e = api.ErrBad
			}
			if c = next; e != api.OK {
				c, want = api.Company{}, stopped{i, said, e}
				break
			}
		}
		wantReplayed(t, first, other, c, want)
	}
}

// P10.3: what a book enters, by one command after the other.
func TestEnterTold(t *testing.T) {
	r := rand.New(rand.NewPCG(10, 3))
	counts := map[string]int{}
	for range 3000 {
		c := someCompany(r)
		var b api.Book
		for range often(r, 3) {
			b.Rows = append(b.Rows, someRow(r))
		}
		for range often(r, 8) {
			b.Letters = append(b.Letters, someLetter(r))
			if len(c.Letters) > 0 && r.IntN(2) == 0 {
				b.Letters = append(b.Letters, c.Letters[r.IntN(len(c.Letters))])
			}
		}
		want, end := c, stopped{}
		step := func(at int, word string, args []int) {
			if end.e != api.OK {
				return
			}
			next, said, e := leader.Do(want, word, args)
			if want = next; e != api.OK {
				end = stopped{at, said, e}
			}
		}
		for i, row := range b.Rows {
			step(i, "ROW", numbersOfRow(row))
		}
		known := 0
		for i, l := range b.Letters {
			if slices.Contains(want.Letters, l) {
				known++
				continue
			}
			step(len(b.Rows)+i, "LETTER", numbersOfLetter(l))
		}
		wantEntered(t, c, b, want, end)
		if t.Failed() {
			t.FailNow()
		}
		counts[end.said+end.e.Error()]++
		if end.e == api.OK && known > 0 {
			counts["known"]++
		}
	}
	wantOften(t, counts, 100, "error 0", "tallyerror 102", "twoerror 102", "known")
}

// P10.11: letters tell the same in any order in which they come, and however often.
func TestLettersInAnyOrder(t *testing.T) {
	r := rand.New(rand.NewPCG(10, 4))
	for range 1000 {
		c := someCompany(r)
		c.Letters, c.Log = nil, nil
		var all []api.Letter
		for id := range 1 + r.IntN(12) {
			l := someLetter(r)
			l.Id = id
			all = append(all, l)
		}
		first, _, _, e := leader.Enter(c, api.Book{Letters: all})
		if e != api.OK {
			t.Fatal(e)
		}
		want, _ := leader.Tell(first)
		// In several books, in any order, some letters in two of them.
		more := slices.Concat(all, all[:r.IntN(len(all)+1)])
		r.Shuffle(len(more), func(i, k int) { more[i], more[k] = more[k], more[i] })
		for part := range slices.Chunk(more, 1+r.IntN(5)) {
			next, _, _, e := leader.Enter(c, api.Book{Letters: part})
			if e != api.OK {
				t.Fatal(e)
			}
			c = next
		}
		if got, e := leader.Tell(c); shown(got) != shown(want) || e != api.OK || len(c.Letters) != len(all) {
			t.Fatalf("%v %+v, want %+v", e, got, want)
		}
		// By the command also twice.
		next, _, e := leader.Do(c, "LETTER", numbersOfLetter(all[0]))
		if got, _ := leader.Tell(next); shown(got) != shown(want) || e != api.OK || len(next.Letters) != len(all)+1 {
			t.Fatalf("%v %+v, want %+v", e, got, want)
		}
	}
}

// P10.4, P10.12: what is told of a company is what its layers say of its parts.
func TestTellTold(t *testing.T) {
	r := rand.New(rand.NewPCG(10, 6))
	for range 500 {
		c := travel(r, someCompany(r), r.IntN(20))
		var want api.Report
		want.East, want.North, _ = guide.Bounds(c.Area)
		for i := range c.Camels {
			fit, _ := camel.Fitness(c.Breed, c.Camels[i])
			_, _, weight, _ := load.Sides(c.Packs, c.Ties[i])
			ready, _ := load.Ready(c.Breed, c.Camels[i], c.Packs, c.Ties[i], c.Bound)
			want.Fit, want.Loads, want.Ready = append(want.Fit, fit), append(want.Loads, weight), append(want.Ready, ready)
		}
		for i := range c.Land.Wells {
			has, _, _ := way.Water(c.Land, i, c.Draws, c.Day+1)
			want.Wells = append(want.Wells, has)
		}
		want.Counts, _, _, _ = brand.Tally(c.First, c.Rows)
		want.Shares, _ = share.Settle(c.Pact, c.Letters)
		wantTold(t, c, want)
	}
}

// P10.5, P10.6, P10.9, N10: books and logs are what was written, and their texts are written again.
func TestTextsTold(t *testing.T) {
	r := rand.New(rand.NewPCG(10, 7))
	small := 1
	number := func() int {
		n := r.IntN(1000000000001)
		for r.IntN(3) < small {
			n /= 100
		}
		return n - 2*n*r.IntN(2)
	}
	numbers := func(n int) (l []int) {
		for range n {
			l = append(l, number())
		}
		return l
	}
	full := 0
	for i := range 600 {
		small = i % 3
		var rows [][]int
		for range r.IntN(130) {
			rows = append(rows, numbers(14))
		}
		b := rowsOf(rows)
		for range r.IntN(170) {
			n := numbers(7)
			b.Letters = append(b.Letters, api.Letter{Id: n[0], Day: n[1], Kind: uint8(r.IntN(256)), Who: n[3], Other: n[4], Animal: n[5], Rials: n[6], Mouth: r.IntN(2) == 0})
		}
		var log []api.Entry
		for range r.IntN(200) {
			word := allWords[r.IntN(len(allWords))]
			log = append(log, entry(number(), word, numbers(numbersOf(word))...))
		}
		if text := ended(linesOf(b)...); len(text) <= 30000 {
			wantBook(t, b, text)
		} else {
			full++
			if got, e := leader.WriteBook(b); got != "" || e != api.ErrFull {
				t.Fatal(len(text), e)
			}
		}
		wantLog(t, log, ended(linesOfLog(log)...))
	}
	if full < 20 {
		t.Error(full)
	}
}

func number(n int) *big.Rat { return big.NewRat(int64(n), 1) }

func plus(l ...*big.Rat) *big.Rat {
	sum := new(big.Rat)
	for _, x := range l {
		sum.Add(sum, x)
	}
	return sum
}

func times(l ...*big.Rat) *big.Rat {
	product := number(1)
	for _, x := range l {
		product.Mul(product, x)
	}
	return product
}

func less(a, b *big.Rat) *big.Rat { return new(big.Rat).Sub(a, b) }

func parts(a *big.Rat, b int) *big.Rat { return new(big.Rat).Quo(a, number(b)) }

func least(l ...*big.Rat) *big.Rat { return slices.MinFunc(l, (*big.Rat).Cmp) }

func most(l ...*big.Rat) *big.Rat { return slices.MaxFunc(l, (*big.Rat).Cmp) }

// inSpan tells whether a real number is in a span.
func inSpan(x *big.Rat, s api.Span) bool { return x.Cmp(number(s.Lo)) >= 0 && x.Cmp(number(s.Hi)) <= 0 }

// within takes a real number of a span, often at an end.
func within(r *rand.Rand, s api.Span) *big.Rat {
	part := []*big.Rat{number(0), number(0), big.NewRat(1, 3), big.NewRat(1, 2), big.NewRat(6, 7), number(1), number(1)}[r.IntN(7)]
	return plus(number(s.Lo), times(part, number(s.Hi-s.Lo)))
}

// about returns a span that a real number is in.
func about(r *rand.Rand, x *big.Rat, wide int) api.Span {
	floor := int(new(big.Int).Div(x.Num(), x.Denom()).Int64())
	s := span(floor-r.IntN(wide), floor+r.IntN(wide))
	if !x.IsInt() {
		s.Hi++
	}
	return s
}

// truth is how a company is in truth.
type truth struct {
	x, y                      *big.Rat
	water, fat, sore          []*big.Rat
	mass, hard, crumbs, leaks []*big.Rat
	wells                     []int
	herd                      int
}

// someTruth is one of a company, and whether there is one by some days on which it rained.
func someTruth(r *rand.Rand, c api.Company) (w truth, ok bool) {
	east, north, _ := guide.Bounds(c.Area)
	w.x, w.y = within(r, east), within(r, north)
	for _, animal := range c.Camels {
		w.water, w.fat, w.sore = append(w.water, within(r, animal.Water)), append(w.fat, within(r, animal.Fat)), append(w.sore, within(r, animal.Sore))
	}
	for _, p := range c.Packs {
		w.mass, w.hard, w.crumbs, w.leaks = append(w.mass, within(r, p.Mass)), append(w.hard, within(r, p.Hard)), append(w.crumbs, within(r, p.Crumbs)), append(w.leaks, within(r, p.Leak))
	}
	for i, well := range c.Land.Wells {
		has := well.Has.Lo + r.IntN(well.Has.Hi-well.Has.Lo+1)
		for day := range c.Day + 1 {
			has = min(well.Room, has+well.Yield.Lo+r.IntN(well.Yield.Hi-well.Yield.Lo+1))
			for _, d := range c.Draws {
				if d.Well == i && d.Day == day {
					has -= d.Water
				}
			}
			if has < 0 {
				return w, false
			}
		}
		w.wells = append(w.wells, has)
	}
	counts, _, _, _ := brand.Tally(c.First, c.Rows)
	last := counts[len(counts)-1]
	w.herd = last.Lo + r.IntN(last.Hi-last.Lo+1)
	return w, true
}

// left returns what is left of a pack.
func (w truth) left(c api.Company, pack int) *big.Rat {
	p, mass := c.Packs[pack], w.mass[pack]
	switch {
	case p.Kind == api.PackSlab && w.hard[pack].Cmp(number(p.Hurt)) <= 0:
		return less(mass, parts(times(mass, w.crumbs[pack]), 1000))
	case p.Kind == api.PackSkin:
		return most(number(0), less(mass, times(number(p.Days), w.leaks[pack])))
	}
	return mass
}

// weight returns what is left of some packs.
func (w truth) weight(c api.Company, packs []int) *big.Rat {
	sum := number(0)
	for _, pack := range packs {
		sum.Add(sum, w.left(c, pack))
	}
	return sum
}

// all returns all of a load.
func (w truth) all(c api.Company, i int) *big.Rat {
	return w.weight(c, slices.Concat(c.Ties[i].Left, c.Ties[i].Right, c.Ties[i].Top))
}

// fitness returns how fit an animal is.
func (w truth) fitness(c api.Company, i int) *big.Rat {
	return least(number(1000), parts(times(number(2000), w.water[i]), c.Breed.Full), parts(times(number(2000), w.fat[i]), c.Breed.Fed), less(number(1000), w.sore[i]))
}

// isTold checks that a truth is in what a company says of itself.
func (w truth) isTold(t *testing.T, c api.Company) {
	t.Helper()
	told, e := leader.Tell(c)
	if e != api.OK {
		t.Fatal(e)
	}
	for _, h := range c.Area.Halves {
		if plus(times(number(h.A), w.x), times(number(h.B), w.y)).Cmp(number(h.C)) > 0 {
			t.Fatalf("%v %v is not in %+v", w.x, w.y, c.Area)
		}
	}
	if !inSpan(w.x, told.East) || !inSpan(w.y, told.North) {
		t.Fatal(w.x, w.y, told)
	}
	for i, animal := range c.Camels {
		if !inSpan(w.water[i], animal.Water) || !inSpan(w.fat[i], animal.Fat) || !inSpan(w.sore[i], animal.Sore) {
			t.Fatal(i, w.water[i], w.fat[i], w.sore[i], animal)
		}
		if !inSpan(w.all(c, i), told.Loads[i]) || !inSpan(w.fitness(c, i), told.Fit[i]) {
			t.Fatal(i, w.all(c, i), w.fitness(c, i), told)
		}
	}
	for i, has := range w.wells {
		if has < told.Wells[i].Lo || has > told.Wells[i].Hi {
			t.Fatal(i, has, told.Wells)
		}
	}
	if last := told.Counts[len(told.Counts)-1]; w.herd < last.Lo || w.herd > last.Hi {
		t.Fatal(w.herd, told.Counts)
	}
}

// spends has a day go by in truth: all animals go on with their loads, if they do not rest, and nobody dies.
func (w *truth) spends(t *testing.T, r *rand.Rand, c api.Company, hours int, heat, grass api.Span, rests bool) {
	t.Helper()
	hot := most(number(0), less(within(r, heat), number(20)))
	for i, animal := range c.Camels {
		b, carried := c.Breed, number(0)
		if !rests {
			carried = w.all(c, i)
			sides := less(w.weight(c, c.Ties[i].Left), w.weight(c, c.Ties[i].Right))
			if sides.Abs(sides).Cmp(number(c.Bound)) > 0 {
				t.Fatal(i, "is uneven by", sides)
			}
			if can := parts(times(within(r, b.Strong), w.fitness(c, i)), 1000); carried.Cmp(can) > 0 {
				t.Fatal(i, "carries", carried, "but can", can)
			}
		}
		work := parts(times(number(hours), plus(number(100000), carried)), 100000)
		loses := plus(within(r, b.Rest), times(within(r, b.Heat), hot), times(within(r, b.Toil), work))
		if animal.Milks {
			loses = plus(loses, within(r, b.Milk))
		}
		w.water[i], w.fat[i] = less(w.water[i], loses), less(w.fat[i], times(within(r, b.Burn), work))
		if w.water[i].Sign() < 0 || w.fat[i].Sign() < 0 {
			t.Fatal(i, "dies", w.water[i], w.fat[i])
		}
		w.fat[i] = least(number(b.Fed), plus(w.fat[i], within(r, grass)))
		if rests {
			w.sore[i] = most(number(0), less(w.sore[i], number(b.Heal)))
		} else {
			w.sore[i] = least(number(1000), plus(w.sore[i], parts(times(within(r, b.Rub), number(hours), carried), 1000000)))
		}
	}
	for i, well := range c.Land.Wells {
		w.wells[i] = min(well.Room, w.wells[i]+well.Yield.Lo+r.IntN(well.Yield.Hi-well.Yield.Lo+1))
	}
}

// looks returns a look that is true, and whether there is one of this word.
func (w truth) looks(r *rand.Rand, word string) ([]int, bool) {
	switch word {
	case "STAR":
		return inOrder(about(r, w.y, 300)), true
	case "NEAR":
		x, y := about(r, w.x, 600), about(r, w.y, 600)
		return list(x.Lo, y.Hi, max(x.Hi-x.Lo, y.Hi-y.Lo)+1), true
	}
	x, y := r.IntN(6000)-2500, r.IntN(6000)-2500
	dx, dy := less(number(x), w.x), less(number(y), w.y)
	for range 20 {
		n := list(x, y, r.IntN(21)-10, r.IntN(21)-10, r.IntN(21)-10, r.IntN(21)-10)
		// It lies to the left of the first direction, and to the right of the second one.
		left := less(times(number(n[2]), dy), times(number(n[3]), dx))
		right := less(times(number(n[5]), dx), times(number(n[4]), dy))
		if n[2]*n[5]-n[3]*n[4] > 0 && left.Sign() >= 0 && right.Sign() >= 0 {
			return n, true
		}
	}
	return nil, false
}

// counts returns a row that is true, and how many animals there are after it.
func (w truth) counts(r *rand.Rand) (row api.Row, herd int) {
	herd = w.herd
	number := func(least, most, sign int) api.Span {
		n := least + r.IntN(most-least+1)
		herd += sign * n
		return span(max(0, n-r.IntN(2)), n+r.IntN(3))
	}
	row = api.Row{Born: number(0, 3, 1), Bought: number(0, 1, 1), Found: number(0, 1, 1)}
	row.Died, row.Sold = number(0, min(herd, 2), -1), number(0, 0, -1)
	row.Strayed = number(0, min(herd, 1), -1)
	row.Count = span(max(0, herd-r.IntN(3)), herd+r.IntN(2))
	return row, herd
}

// P10.11, P10.12, N10: whatever comes, a caravan in truth is where the company says it is, and as it says; no animal dies or carries more than it can on a march that is done, and all that was drawn was there. P10.10: what is true is no contradiction.
func TestTruths(t *testing.T) {
	r := rand.New(rand.NewPCG(10, 11))
	counts := map[string]int{}
	for range 1200 {
		c := someCompany(r)
		w, ok := someTruth(r, c)
		if c.Day > 99 || !ok {
			continue
		}
		w.isTold(t, c)
		for range 30 {
			word, args := someCommand(r, c)
			if len(args) != numbersOf(word) {
				continue
			}
			row, herd := w.counts(r)
			switch word {
			case "MARK", "STAR", "NEAR":
				if args, ok = w.looks(r, word); !ok {
					continue
				}
			case "ROW":
				args = numbersOfRow(row)
			}
			next, said, e := leader.Do(c, word, args)
			if said == "lost" || said == "tally" {
				t.Fatal(name(word, args), said)
			}
			if e != api.OK {
				continue
			}
			switch word {
			case "MARCH":
				w.spends(t, r, c, args[0], span(args[5], args[6]), span(args[7], args[8]), false)
				w.x, w.y = plus(w.x, within(r, span(args[1], args[2]))), plus(w.y, within(r, span(args[3], args[4])))
			case "REST":
				w.spends(t, r, c, 0, span(args[0], args[1]), span(args[2], args[3]), true)
			case "DRINK":
				drawn := next.Draws[len(next.Draws)-1].Water
				need := number(0)
				for i := range c.Camels {
					need = plus(need, less(number(c.Breed.Full), w.water[i]))
					w.water[i] = number(c.Breed.Full)
				}
				if w.wells[args[0]] -= drawn; w.wells[args[0]] < 0 || need.Cmp(number(drawn)) > 0 {
					t.Fatal(drawn, "is not there, or less than", need)
				}
				// All of them are at the well.
				far := number(1000)
				for _, d := range []*big.Rat{less(w.x, number(c.Land.Wells[args[0]].X)), less(w.y, number(c.Land.Wells[args[0]].Y))} {
					if d.Abs(d).Cmp(far) > 0 {
						t.Fatal("a well is", d, "away")
					}
				}
			case "SETTLE":
				sides := less(w.weight(next, next.Ties[args[0]].Left), w.weight(next, next.Ties[args[0]].Right))
				if sides.Abs(sides).Cmp(number(c.Bound)) > 0 {
					t.Fatal(sides)
				}
			case "ROW":
				w.herd = herd
			}
			c = next
			w.isTold(t, c)
			counts[word]++
		}
	}
	wantOften(t, counts, 300, allWords...)
}

// hasPlace tells whether a place is in all of some halves, of which four bound it: then a corner is one.
func hasPlace(halves []api.Half) bool {
	for i, a := range halves {
		for _, b := range halves[:i] {
			det := a.A*b.B - b.A*a.B
			x, y := a.C*b.B-b.C*a.B, a.A*b.C-b.A*a.C
			if det < 0 {
				det, x, y = -det, -x, -y
			}
			if det != 0 && !slices.ContainsFunc(halves, func(h api.Half) bool { return h.A*x+h.B*y > h.C*det }) {
				return true
			}
		}
	}
	return false
}

// halvesOf returns the halves of a look by the chapter of layer 4.
func halvesOf(word string, n []int) []api.Half {
	switch word {
	case "STAR":
		return []api.Half{{B: 1, C: n[1]}, {B: -1, C: -n[0]}}
	case "NEAR":
		return []api.Half{{A: 1, C: n[0] + n[2]}, {A: -1, C: n[2] - n[0]}, {B: 1, C: n[1] + n[2]}, {B: -1, C: n[2] - n[1]}}
	}
	return []api.Half{{A: -n[3], B: n[2], C: n[2]*n[1] - n[3]*n[0]}, {A: n[5], B: -n[4], C: n[5]*n[0] - n[4]*n[1]}}
}

// canBe tells whether a herd can be so by its rows, tried number by number.
func canBe(first api.Span, rows []api.Row) bool {
	counts := map[int]bool{}
	for n := first.Lo; n <= first.Hi; n++ {
		counts[n] = true
	}
	for _, row := range rows {
		next := map[int]bool{}
		for n := range counts {
			for change := -row.Died.Hi - row.Sold.Hi - row.Strayed.Hi; change <= row.Born.Hi+row.Bought.Hi+row.Found.Hi; change++ {
				// All that came and went may be any numbers of their spans, so each number between the least and the greatest change is one.
				leastChange := row.Born.Lo + row.Bought.Lo + row.Found.Lo - row.Died.Hi - row.Sold.Hi - row.Strayed.Hi
				mostChange := row.Born.Hi + row.Bought.Hi + row.Found.Hi - row.Died.Lo - row.Sold.Lo - row.Strayed.Lo
				if leastChange <= change && change <= mostChange && row.Count.Lo <= n+change && n+change <= row.Count.Hi {
					next[n+change] = true
				}
			}
		}
		counts = next
	}
	return len(counts) > 0
}

// mayDie tells whether an animal may die on a day, with the greatest load.
func mayDie(c api.Company, i, hours, heat int, carried api.Span) bool {
	b, animal := c.Breed, c.Camels[i]
	work := parts(number(hours*(100000+carried.Hi)), 100000)
	loses := plus(number(b.Rest.Hi+b.Heat.Hi*max(0, heat-20)), times(number(b.Toil.Hi), work))
	if animal.Milks {
		loses = plus(loses, number(b.Milk.Hi))
	}
	return loses.Cmp(number(animal.Water.Lo)) > 0 || times(number(b.Burn.Hi), work).Cmp(number(animal.Fat.Lo)) > 0
}

// P10.10: the reasons are true, and what has no reason is done.
func TestReasons(t *testing.T) {
	r := rand.New(rand.NewPCG(10, 10))
	counts := map[string]int{}
	for range 1500 {
		c := someCompany(r)
		for range 30 {
			word, args := someCommand(r, c)
			next, said, e := leader.Do(c, word, args)
			if e != api.OK && e != api.ErrDoubt {
				continue
			}
			told, _ := leader.Tell(c)
			reason, doubt := "", e == api.ErrDoubt
			switch word {
			case "MARCH":
				if weak := slices.IndexFunc(told.Ready, func(ready uint8) bool { return ready != api.KnownYes }); weak >= 0 {
					reason = plain("weak", weak)
				} else if dies := slices.IndexFunc(list(0, 1, 2, 3)[:len(c.Camels)], func(i int) bool { return mayDie(c, i, args[0], args[6], told.Loads[i]) }); dies >= 0 {
					reason = plain("dies", dies)
				}
			case "REST":
				if dies := slices.IndexFunc(list(0, 1, 2, 3)[:len(c.Camels)], func(i int) bool { return mayDie(c, i, 0, args[1], api.Span{}) }); dies >= 0 {
					reason = plain("dies", dies)
				}
			case "MARK", "STAR", "NEAR":
				if !hasPlace(slices.Concat(c.Area.Halves, halvesOf(word, args))) {
					reason = "lost"
				}
			case "DRINK":
				well := c.Land.Wells[args[0]]
				need := 0
				for _, animal := range c.Camels {
					need += c.Breed.Full - animal.Water.Lo
				}
				if told.East.Lo < well.X-1000 || told.East.Hi > well.X+1000 || told.North.Lo < well.Y-1000 || told.North.Hi > well.Y+1000 {
					reason = "far"
				} else if need > told.Wells[args[0]].Lo {
					reason = "dry"
				}
			case "SETTLE":
				if !settles(c, args[0]) {
					reason = "uneven"
				}
			case "ROW":
				if !canBe(c.First, append(slices.Clone(c.Rows), rowsOf([][]int{args}).Rows...)) {
					reason = "tally"
				}
			case "LETTER":
				if slices.ContainsFunc(c.Letters, func(l api.Letter) bool {
					return l.Id == args[0] && !slices.Equal(numbersOfLetter(l), args)
				}) {
					reason = "two"
				}
			}
			if said != reason || doubt != (reason != "") {
				t.Fatalf("%s: %q, want %q: %+v", name(word, args), said, reason, c)
			}
			kind, _, _ := strings.Cut(said, " ")
			if counts[kind]++; e == api.OK {
				c = next
			}
		}
	}
	wantOften(t, counts, 100, "", "weak", "dies", "lost", "far", "dry", "uneven", "tally", "two")
}

// settles tells whether some packs can be moved such that a load is balanced, by trying all.
func settles(c api.Company, i int) bool {
	tie := c.Ties[i]
	packs := slices.Concat(tie.Left, tie.Right)
	for set := range 1 << len(packs) {
		difference := api.Span{}
		for k, pack := range packs {
			left, _, _, _ := load.Rest(c.Packs[pack])
			if set>>k&1 == 0 {
				difference = span(difference.Lo+left.Lo, difference.Hi+left.Hi)
			} else {
				difference = span(difference.Lo-left.Hi, difference.Hi-left.Lo)
			}
		}
		if -c.Bound <= difference.Lo && difference.Hi <= c.Bound {
			return true
		}
	}
	return false
}
