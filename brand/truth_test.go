package brand_test

import (
	"math/rand/v2"
	"slices"
	"testing"

	"azalai/api"
	"azalai/brand"
)

// fewBirths returns a herd whose births are few, near the least and the greatest age of a mother, in any order.
func fewBirths(r *rand.Rand) []api.Animal {
	ids := r.Perm(20)
	l := make([]api.Animal, 1+r.IntN(4))
	for i := range l {
		l[i] = beast(ids[i], -1, span(0, r.IntN(4)))
		if i > 0 && r.IntN(5) > 0 {
			dam := l[r.IntN(i)]
			lo := dam.Born.Lo + []int{1400, 10000}[r.IntN(2)] + r.IntN(7) - 3
			l[i].Mother, l[i].Born = dam.Id, span(lo, lo+r.IntN(4))
		}
		for spot := range 2 {
			if sign := r.IntN(3); sign > 0 {
				l[i].Marks = append(l[i].Marks, mark(spot, sign))
			}
		}
	}
	r.Shuffle(len(l), func(i, k int) { l[i], l[k] = l[k], l[i] })
	return l
}

// allBirths calls a function with each of a herd's births.
func allBirths(l []api.Animal, told func(born map[int]int)) {
	born := map[int]int{}
	var choose func(i int)
	choose = func(i int) {
		if i < len(l) {
			for day := l[i].Born.Lo; day <= l[i].Born.Hi; day++ {
				born[l[i].Id] = day
				choose(i + 1)
			}
			return
		}
		for _, a := range l {
			if age := born[a.Id] - born[a.Mother]; a.Mother >= 0 && (age < 1400 || age > 10000) {
				return
			}
		}
		told(born)
	}
	choose(0)
}

// P2.7: against all births of small herds.
func TestBirthsTruths(t *testing.T) {
	r := rand.New(rand.NewPCG(2, 7))
	seen := map[api.Errno]int{}
	for range 3000 {
		l := fewBirths(r)
		var want []api.Span
		allBirths(l, func(born map[int]int) {
			if want == nil {
				for _, a := range l {
					want = append(want, span(born[a.Id], born[a.Id]))
				}
			}
			for i, a := range l {
				want[i].Lo, want[i].Hi = min(want[i].Lo, born[a.Id]), max(want[i].Hi, born[a.Id])
			}
		})
		got, e := brand.Births(l)
		seen[e]++
		if !slices.Equal(got, want) || e != due(want != nil, api.ErrDams) {
			t.Fatal(l, got, e, "want", want)
		}
	}
	if seen[api.OK] < 500 || seen[api.ErrDams] < 500 {
		t.Error(seen)
	}
}

// manyBirths returns a herd of 16 with wide spans around true births.
func manyBirths(r *rand.Rand) (l []api.Animal, born []int) {
	l, born = beasts(16), make([]int, 16)
	for i := range l {
		if i > 0 && r.IntN(6) > 0 {
			l[i].Mother = r.IntN(i)
			born[i] = born[l[i].Mother] + 1400 + r.IntN(8601)
		}
		l[i].Born = span(max(-100000, born[i]-r.IntN(20000)), min(100000, born[i]+r.IntN(20000)))
	}
	return l, born
}

// P2.7: each end of a large herd is reached, and the one beyond it is not.
func TestBirthsEnds(t *testing.T) {
	r := rand.New(rand.NewPCG(3, 7))
	for range 300 {
		l, born := manyBirths(r)
		known, e := brand.Births(l)
		if e != api.OK {
			t.Fatal(l, e)
		}
		for i, s := range known {
			if born[i] < s.Lo || born[i] > s.Hi {
				t.Fatal(l, i, s, born[i])
			}
			for day, e := range map[int]api.Errno{s.Lo: api.OK, s.Hi: api.OK, s.Lo - 1: api.ErrDams, s.Hi + 1: api.ErrDams} {
				fixed := slices.Clone(l)
				fixed[i].Born = span(day, day)
				if day < l[i].Born.Lo || day > l[i].Born.Hi {
					continue
				}
				if _, f := brand.Births(fixed); f != e {
					t.Fatal(l, i, day, f)
				}
			}
		}
	}
}

// nearLook returns a look whose age ends near a birth of a herd, or that saw little.
func nearLook(r *rand.Rand, l []api.Animal) api.Look {
	s := look(40000, anyAge())
	for spot := range 2 {
		if r.IntN(3) == 0 {
			s.Signs[spot] -= 1 << r.IntN(3)
		}
	}
	a := l[r.IntN(len(l))].Born
	age := 40000 - a.Lo - r.IntN(a.Hi-a.Lo+1)
	switch r.IntN(4) {
	case 0:
		s.Age = span(age, age+r.IntN(2))
	case 1:
		s.Age = span(0, age)
	case 2:
		s.Age = span(age, 40000)
	}
	return s
}

// fitsOn tells whether a look fits an animal that is born on a day.
func fitsOn(l api.Look, a api.Animal, born int) bool {
	for spot := range 8 {
		sign := 0
		for _, m := range a.Marks {
			if m.Spot == spot {
				sign = m.Sign
			}
		}
		if l.Signs[spot]&(1<<sign) == 0 {
			return false
		}
	}
	return l.Age.Lo <= l.Day-born && l.Day-born <= l.Age.Hi
}

// namesTrue returns which animals, by look and Id, are true names with some births.
func namesTrue(l []api.Animal, looks []api.Look, calves []api.Calf) (named []map[int]bool, any bool) {
	named = make([]map[int]bool, len(looks))
	for i := range named {
		named[i] = map[int]bool{}
	}
	allBirths(l, func(born map[int]int) {
		chosen := make([]api.Animal, len(looks))
		var choose func(i int)
		choose = func(i int) {
			if i < len(looks) {
				for _, a := range l {
					if fitsOn(looks[i], a, born[a.Id]) && !slices.ContainsFunc(chosen[:i], func(b api.Animal) bool { return a.Id == b.Id }) {
						chosen[i] = a
						choose(i + 1)
					}
				}
				return
			}
			if slices.ContainsFunc(calves, func(c api.Calf) bool { return chosen[c.Young].Mother != chosen[c.Dam].Id }) {
				return
			}
			any = true
			for i, a := range chosen {
				named[i][a.Id] = true
			}
		}
		choose(0)
	})
	return named, any
}

func idsOf(set map[int]bool) []int {
	var l []int
	for id := range set {
		l = append(l, id)
	}
	slices.Sort(l)
	return l
}

// P2.6: whatever the births were, the animals that were seen are named; and each one that is named may be it.
func TestNamesTruths(t *testing.T) {
	r := rand.New(rand.NewPCG(2, 6))
	seen := map[api.Errno]int{}
	alone := 0
	for range 3000 {
		l := fewBirths(r)
		looks := make([]api.Look, r.IntN(4))
		for i := range looks {
			looks[i] = nearLook(r, l)
		}
		var calves []api.Calf
		if len(looks) > 1 {
			for range r.IntN(2) + r.IntN(2) {
				dam := r.IntN(len(looks))
				calves = append(calves, api.Calf{Dam: dam, Young: (dam + 1 + r.IntN(len(looks)-1)) % len(looks)})
			}
		}
		named, any := namesTrue(l, looks, calves)
		got, e := brand.Names(l, looks, calves)
		seen[e]++
		if _, f := brand.Births(l); f != api.OK {
			if e != f || len(got) != 0 {
				t.Fatal(l, got, e)
			}
			continue
		}
		if e != due(any, api.ErrNobody) || any && len(got) != len(looks) {
			t.Fatal(l, looks, calves, got, e, named)
		}
		for i := range got {
			if !slices.Equal(got[i], idsOf(named[i])) {
				t.Fatal(l, looks, calves, got, named)
			}
		}
		for i := range looks {
			one, _ := namesTrue(l, looks[i:i+1], nil)
			fit, e := brand.Fits(l, looks[i])
			if !slices.Equal(fit, idsOf(one[0])) || e != api.OK {
				t.Fatal(l, looks[i], fit, e, one)
			}
			if any && len(got[i]) < len(fit) {
				alone++
			}
		}
	}
	if seen[api.OK] < 500 || seen[api.ErrNobody] < 500 || alone < 150 {
		t.Error(seen, alone)
	}
}

// P2.6: with signs that are seen better no more animals fit.
func TestSeenBetter(t *testing.T) {
	r := rand.New(rand.NewPCG(3, 6))
	in := func(small, large []int) bool {
		return !slices.ContainsFunc(small, func(id int) bool { return !slices.Contains(large, id) })
	}
	for range 2000 {
		l, _ := manyBirths(r)
		for i := range l {
			l[i].Marks = []api.Mark{mark(1, 1+r.IntN(20)), mark(0, 1+r.IntN(20))}
		}
		worse := look(90000, span(90000-r.IntN(30000), 90000+r.IntN(30000)), uint32(r.IntN(anything+1)), uint32(r.IntN(anything+1)))
		better := api.Look{Signs: slices.Clone(worse.Signs), Day: worse.Day, Age: worse.Age}
		better.Signs[r.IntN(2)] &= uint32(r.IntN(anything + 1))
		wide, e := brand.Fits(l, worse)
		narrow, f := brand.Fits(l, better)
		if !in(narrow, wide) || e != api.OK || f != api.OK {
			t.Fatal(l, worse, wide, better, narrow)
		}
		other := look(90000, anyAge())
		names, e := brand.Names(l, []api.Look{worse, other}, []api.Calf{{Dam: 0, Young: 1}})
		if names2, f := brand.Names(l, []api.Look{better, other}, []api.Calf{{Dam: 0, Young: 1}}); f == api.OK && (e != api.OK || !in(names2[0], names[0]) || !in(names2[1], names[1])) {
			t.Fatal(l, worse, names, better, names2)
		}
	}
}

// P2.8: nobody takes an animal for another one by its spots; by fewer, or by a list before, somebody may.
func TestTelltaleTruths(t *testing.T) {
	r := rand.New(rand.NewPCG(2, 8))
	sizes := map[int]int{}
	for range 2000 {
		l := beasts(1 + r.IntN(16))
		for i := range l {
			for _, spot := range r.Perm(8) {
				if sign := r.IntN(3) - r.IntN(2); sign > 0 {
					l[i].Marks = append(l[i].Marks, mark(spot, sign))
				}
			}
		}
		signs := make([][8]int, len(l))
		for i, a := range l {
			for _, m := range a.Marks {
				signs[i][m.Spot] = m.Sign
			}
		}
		tells := func(spots []int) bool {
			for i := 1; i < len(l); i++ {
				if !slices.ContainsFunc(spots, func(spot int) bool { return signs[i][spot] != signs[0][spot] }) {
					return false
				}
			}
			return true
		}
		want, ok := firstOf(8, tells)
		got, e := brand.Telltale(l, 0)
		if !slices.Equal(got, want) || e != due(ok, api.ErrNone) {
			t.Fatal(l, got, e, want)
		}
		sizes[len(got)]++
	}
	if len(sizes) < 4 {
		t.Error(sizes)
	}
}

// firstOf returns the first list, by length and then by its numbers, of numbers below most that fits.
func firstOf(most int, fits func([]int) bool) ([]int, bool) {
	for size := range most + 1 {
		var found []int
		var choose func(l []int, from int) bool
		choose = func(l []int, from int) bool {
			if len(l) == size {
				found = slices.Clone(l)
				return fits(l)
			}
			for n := from; n < most; n++ {
				if choose(append(l, n), n+1) {
					return true
				}
			}
			return false
		}
		if choose(nil, 0) {
			return found, true
		}
	}
	return nil, false
}

// tallyTrue returns the ends of all numbers that fit a tally, its first count as the Count of the row 0; false if there are none.
func tallyTrue(first api.Span, rows []api.Row) (ends []api.Row, any bool) {
	ends = make([]api.Row, len(rows)+1)
	numbers := make([][7]int, len(rows)+1)
	var choose func(row, place int)
	choose = func(row, place int) {
		if row > len(rows) {
			for i := range ends {
				for k, s := range rowSpans(&ends[i]) {
					if n := numbers[i][k]; !any {
						*s = span(n, n)
					} else {
						*s = span(min(s.Lo, n), max(s.Hi, n))
					}
				}
			}
			any = true
			return
		}
		v := &numbers[row]
		s := *rowSpans(&rows[row-1])[place]
		if place == 6 {
			v[6] = numbers[row-1][6] + v[0] + v[1] + v[2] - v[3] - v[4] - v[5]
			if s.Lo <= v[6] && v[6] <= s.Hi {
				choose(row+1, 0)
			}
			return
		}
		for v[place] = s.Lo; v[place] <= s.Hi; v[place]++ {
			choose(row, place+1)
		}
	}
	for n := first.Lo; n <= first.Hi; n++ {
		numbers[0][6] = n
		choose(1, 0)
	}
	return ends, any
}

// P2.9: against all numbers that fit small tallies.
func TestTallyTruths(t *testing.T) {
	r := rand.New(rand.NewPCG(2, 9))
	seen := map[api.Errno]int{}
	for range 1500 {
		first := span(r.IntN(3), 2+r.IntN(3))
		rows := make([]api.Row, r.IntN(4))
		for i := range rows {
			for place, s := range rowSpans(&rows[i]) {
				*s = span(0, 0)
				if place == 6 {
					lo := r.IntN(6)
					*s = span(lo, lo+r.IntN(5))
				} else if r.IntN(3) == 0 {
					lo := r.IntN(3)
					*s = span(lo, lo+r.IntN(4))
				}
			}
		}
		counts, known, at, e := brand.Tally(first, rows)
		seen[e]++
		if ends, any := tallyTrue(first, rows); any {
			if e != api.OK || at != 0 || len(counts) != len(rows)+1 || counts[0] != ends[0].Count || !slices.Equal(known, ends[1:]) {
				t.Fatal(first, rows, counts, known, at, e, ends)
			}
			for i := range known {
				if counts[i+1] != known[i].Count {
					t.Fatal(first, rows, counts, known)
				}
			}
			continue
		}
		_, before := tallyTrue(first, rows[:at])
		_, with := tallyTrue(first, rows[:at+1])
		if e != api.ErrTally || !before || with || len(counts)+len(known) != 0 {
			t.Fatal(first, rows, counts, known, at, e)
		}
	}
	if seen[api.OK] < 300 || seen[api.ErrTally] < 300 {
		t.Error(seen)
	}
}

// trueTally returns a long tally with wide spans around true numbers.
func trueTally(r *rand.Rand) (first api.Span, rows []api.Row, was int, numbers [][7]int) {
	around := func(n int) api.Span { return span(max(0, n-r.IntN(300)), min(100000, n+r.IntN(300))) }
	was = 50000 + r.IntN(1000)
	first = around(was)
	count := was
	for range 40 {
		var n [7]int
		for i := range 6 {
			n[i] = r.IntN(400)
		}
		count += n[0] + n[1] + n[2] - n[3] - n[4] - n[5]
		n[6] = count
		var row api.Row
		for i, s := range rowSpans(&row) {
			*s = around(n[i])
		}
		rows, numbers = append(rows, row), append(numbers, n)
	}
	return first, rows, was, numbers
}

// P2.9: what was there and came is what is there and went, in what is told too; each end of a long tally is reached.
func TestTallyEnds(t *testing.T) {
	r := rand.New(rand.NewPCG(3, 9))
	in := func(n int, s api.Span) bool { return s.Lo <= n && n <= s.Hi }
	for range 20 {
		first, rows, was, numbers := trueTally(r)
		counts, known, _, e := brand.Tally(first, rows)
		if e != api.OK || !in(was, counts[0]) {
			t.Fatal(first, rows, counts, e)
		}
		for i := range known {
			for place, s := range rowSpans(&known[i]) {
				if !in(numbers[i][place], *s) {
					t.Fatal(first, rows, i, place, *s, numbers[i])
				}
				given := *rowSpans(&rows[i])[place]
				for n, e := range map[int]api.Errno{s.Lo: api.OK, s.Hi: api.OK, s.Lo - 1: api.ErrTally, s.Hi + 1: api.ErrTally} {
					if !in(n, given) {
						continue
					}
					fixed := slices.Clone(rows)
					*rowSpans(&fixed[i])[place] = span(n, n)
					if _, _, _, f := brand.Tally(first, fixed); f != e {
						t.Fatal(first, rows, i, place, n, f)
					}
				}
			}
		}
	}
}
