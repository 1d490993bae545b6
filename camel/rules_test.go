package camel_test

import (
	"math"
	"math/rand/v2"
	"slices"
	"testing"

	"azalai/api"
	"azalai/camel"
)

// The signatures of the chapter.
var (
	_ func(api.Breed) api.Errno                                                    = camel.CheckBreed
	_ func(api.Breed, api.Camel) api.Errno                                         = camel.CheckCamel
	_ func(api.Breed, api.Camel) (api.Span, api.Errno)                             = camel.Fitness
	_ func(api.Breed, api.Camel) (api.Span, api.Errno)                             = camel.Carries
	_ func(api.Breed, bool, api.March) (api.Span, api.Span, api.Errno)             = camel.Cost
	_ func(api.Breed, api.Camel, api.March) (api.Camel, uint8, api.Errno)          = camel.After
	_ func(api.Breed, api.Camel, []api.March) ([]api.Camel, uint8, int, api.Errno) = camel.Days
	_ func(api.Breed, api.Camel, api.March) (api.Span, api.Errno)                  = camel.Lasts
	_ func(api.Breed, api.Camel, []api.March) (int, api.Errno)                     = camel.Heaviest
	_ func(api.Breed, []api.Camel) (api.Span, api.Errno)                           = camel.Thirst
	_ func(int, []int, []api.Meet, api.Span, int) ([]uint8, api.Errno)             = camel.Mange
)

// outcome is the error of a call, and whether all its other results are zero values.
type outcome struct {
	e    api.Errno
	zero bool
}

func ofSpan(s api.Span, e api.Errno) outcome { return outcome{e, s == api.Span{}} }

// outcomes calls each function with a breed; those with days get l, those with one day its first one.
func outcomes(b api.Breed, c api.Camel, l []api.March, train []api.Camel) map[string]outcome {
	m := l[0]
	water, fat, costs := camel.Cost(b, c.Milks, m)
	next, fate, after := camel.After(b, c, m)
	all, worst, at, days := camel.Days(b, c, l)
	load, heaviest := camel.Heaviest(b, c, l)
	if days == api.ErrDies && worst == api.FateDies {
		// What the chapter says of an animal that dies stands beside the error.
		worst, at = 0, 0
	}
	return map[string]outcome{
		"CheckBreed": {camel.CheckBreed(b), true},
		"CheckCamel": {camel.CheckCamel(b, c), true},
		"Fitness":    ofSpan(camel.Fitness(b, c)),
		"Carries":    ofSpan(camel.Carries(b, c)),
		"Cost":       {costs, water == api.Span{} && fat == api.Span{}},
		"After":      {after, next == api.Camel{} && fate == 0},
		"Days":       {days, len(all) == 0 && worst == 0 && at == 0},
		"Lasts":      ofSpan(camel.Lasts(b, c, m)),
		"Heaviest":   {heaviest, load == 0},
		"Thirst":     ofSpan(camel.Thirst(b, train)),
	}
}

// R1, R2: of several errors the first one, with zero values.
func TestOrderOfErrors(t *testing.T) {
	badBreed := with(breed(), func(b *api.Breed) { b.Rub.Lo = 1000 })
	badCamel := with(animal(), func(c *api.Camel) { c.Fat.Hi = 50001 })
	badDays := slices.Repeat([]api.March{{Hours: 25}}, 61)
	train := slices.Repeat([]api.Camel{badCamel}, 31)
	thirsty := api.Camel{Water: span(0, 1), Fat: span(0, 1)}
	for i, x := range []struct {
		b     api.Breed
		c     api.Camel
		l     []api.March
		train []api.Camel
		due   map[string]api.Errno
		other api.Errno
	}{
		{badBreed, badCamel, badDays, train, nil, api.ErrBreed},
		{breed(), badCamel, badDays, train, map[string]api.Errno{"CheckBreed": api.OK, "Cost": api.ErrMarch, "Thirst": api.ErrMany}, api.ErrCamel},
		{breed(), thirsty, badDays, train[:30], map[string]api.Errno{"Cost": api.ErrMarch, "After": api.ErrMarch, "Lasts": api.ErrMarch, "Days": api.ErrMany, "Heaviest": api.ErrMany, "Thirst": api.ErrCamel}, api.OK},
		{breed(), thirsty, badDays[:60], nil, map[string]api.Errno{"Cost": api.ErrMarch, "After": api.ErrMarch, "Lasts": api.ErrMarch, "Days": api.ErrMarch, "Heaviest": api.ErrMarch}, api.OK},
		{breed(), thirsty, make([]api.March, 60), nil, map[string]api.Errno{"After": api.ErrDies, "Days": api.ErrDies, "Heaviest": api.ErrDies}, api.OK},
	} {
		for name, got := range outcomes(x.b, x.c, x.l, x.train) {
			due, named := x.due[name]
			if !named {
				due = x.other
			}
			if got.e != due || due != api.OK && !got.zero {
				t.Error(i, name, got, "want", due)
			}
		}
	}
}

// edge returns a number that may be at an edge of what is valid.
func edge(r *rand.Rand, least, most int) int {
	if r.IntN(12) > 0 {
		return least + r.IntN(most-least+1)
	}
	return []int{math.MinInt, -1 << 32, least - 1, least, most, most + 1, 1 << 32, 1 << 62, math.MaxInt}[r.IntN(9)]
}

// scramble puts any numbers into all fields of a value, and tells whether it is still valid.
func scramble[T any](r *rand.Rand, v *T, spans []spanOf[T], numbers []numberOf[T]) bool {
	valid := true
	for _, f := range spans {
		lo := edge(r, 0, f.most)
		s := span(lo, edge(r, max(0, min(lo, f.most)), f.most))
		*f.of(v) = s
		valid = valid && 0 <= s.Lo && s.Lo <= s.Hi && s.Hi <= f.most
	}
	for _, f := range numbers {
		n := edge(r, f.least, f.most)
		*f.of(v) = n
		valid = valid && f.least <= n && n <= f.most
	}
	return valid
}

// R5, R6, R7: any numbers lead to the errors that are due, without a panic and without an end that is missed.
func TestAnyValue(t *testing.T) {
	r := rand.New(rand.NewPCG(1, 7))
	seen := map[api.Errno]int{}
	for range 20000 {
		b, c, m := breed(), animal(), march()
		due := api.OK
		goodBreed := scramble(r, &b, breedSpans(), breedNumbers()) || r.IntN(2) == 0
		if goodBreed {
			b = with(breed(), func(b *api.Breed) { b.Heat.Hi, b.Toil.Hi = 100+r.IntN(99901), 250+r.IntN(99751) })
		}
		goodCamel := scramble(r, &c, camelSpans(), nil)
		goodMarch := scramble(r, &m, marchSpans(), marchNumbers())
		switch {
		case !goodBreed:
			due = api.ErrBreed
		case !goodCamel:
			due = api.ErrCamel
		case !goodMarch:
			due = api.ErrMarch
		}
		if due == api.ErrBreed && camel.CheckBreed(b) == api.OK {
			t.Fatal(b)
		}
		seen[due]++
		for name, got := range outcomes(b, c, []api.March{m, m}, []api.Camel{c}) {
			if got.e != api.OK && !got.zero {
				t.Fatal(name, b, c, m, got)
			}
			takesDays := slices.Contains([]string{"After", "Days", "Lasts", "Heaviest"}, name)
			if takesDays && got.e != due && (due != api.OK || got.e != api.ErrDies) {
				t.Fatal(name, b, c, m, got, due)
			}
		}
	}
	if len(seen) != 4 {
		t.Error(seen)
	}
	for range 20000 {
		meets := make([]api.Meet, r.IntN(4))
		for i := range meets {
			meets[i] = api.Meet{A: edge(r, 0, 30), B: edge(r, 0, 30), Day: edge(r, 0, 100000), Close: r.IntN(2) == 0}
		}
		n := edge(r, 1, 30)
		if l, e := camel.Mange(n, []int{edge(r, 0, 29)}, meets, span(edge(r, 1, 60), edge(r, 1, 60)), edge(r, 0, 100000)); e == api.OK && len(l) != n || e != api.OK && len(l) != 0 {
			t.Fatal(l, e)
		}
	}
}

// spare returns a list whose memory goes on behind its end.
func spare[T any](l []T, behind T) []T {
	return append(slices.Clone(l), behind, behind)[:len(l)]
}

// R3: no argument is written to, nor what lies behind its end; results share no memory; no call remembers another one.
func TestValues(t *testing.T) {
	first := spare([]int{2, 0}, 77)
	meets := spare([]api.Meet{{A: 0, B: 1, Day: 9, Close: true}, {A: 1, B: 3, Day: 3}, {A: 2, B: 1, Day: 5}}, api.Meet{Day: 77})
	days := spare([]api.March{march(), {Load: 7}, march()}, api.March{Hours: 77})
	train := spare([]api.Camel{animal(), {}, animal()}, api.Camel{Milks: true})
	first2, meets2 := slices.Clone(first[:4]), slices.Clone(meets[:5])
	days2, train2 := slices.Clone(days[:5]), slices.Clone(train[:5])

	all, _, _, _ := camel.Days(breed(), animal(), days)
	known, _ := camel.Mange(4, first, meets, span(1, 2), 50)
	load, _ := camel.Heaviest(breed(), animal(), days)
	need, _ := camel.Thirst(breed(), train)
	told, says := slices.Clone(all), slices.Clone(known)
	clear(all[:cap(all)])
	clear(known[:cap(known)])

	if !slices.Equal(first[:4], first2) || !slices.Equal(meets[:5], meets2) || !slices.Equal(days[:5], days2) || !slices.Equal(train[:5], train2) {
		t.Error("an argument is written to", first[:4], meets[:5], days[:5], train[:5])
	}
	all, _, _, _ = camel.Days(breed(), animal(), days)
	known, _ = camel.Mange(4, first, meets, span(1, 2), 50)
	load2, _ := camel.Heaviest(breed(), animal(), days)
	need2, _ := camel.Thirst(breed(), train)
	if !slices.Equal(all, told) || !slices.Equal(known, says) || load != load2 || need != need2 {
		t.Error("another result", all, known, load2, need2)
	}
}

// R4.
func TestNilAndEmpty(t *testing.T) {
	a, fate, at, e := camel.Days(breed(), animal(), nil)
	a2, fate2, at2, e2 := camel.Days(breed(), animal(), []api.March{})
	if len(a) != 0 || len(a2) != 0 || fate != fate2 || at != at2 || e != api.OK || e2 != api.OK {
		t.Error(a, fate, at, e, a2, fate2, at2, e2)
	}
	h, e := camel.Heaviest(breed(), animal(), nil)
	h2, e2 := camel.Heaviest(breed(), animal(), []api.March{})
	if h != h2 || e != api.OK || e2 != api.OK {
		t.Error(h, e, h2, e2)
	}
	n, e := camel.Thirst(breed(), nil)
	n2, e2 := camel.Thirst(breed(), []api.Camel{})
	if n != n2 || e != api.OK || e2 != api.OK {
		t.Error(n, e, n2, e2)
	}
	m, e := camel.Mange(2, nil, nil, span(1, 1), 5)
	m2, e2 := camel.Mange(2, []int{}, []api.Meet{}, span(1, 1), 5)
	if !slices.Equal(m, []uint8{0, 0}) || !slices.Equal(m, m2) || e != api.OK || e2 != api.OK {
		t.Error(m, e, m2, e2)
	}
}
