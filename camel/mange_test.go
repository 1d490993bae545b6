package camel_test

import (
	"math"
	"math/rand/v2"
	"slices"
	"testing"

	"azalai/api"
	"azalai/camel"
)

// P1.8.
func TestMange(t *testing.T) {
	close := func(a, b, day int) api.Meet { return api.Meet{A: a, B: b, Day: day, Close: true} }
	open := func(a, b, day int) api.Meet { return api.Meet{A: a, B: b, Day: day} }
	for i, x := range []struct {
		n     int
		first []int
		meets []api.Meet
		wait  api.Span
		want  map[int]string
	}{
		{3, nil, []api.Meet{close(0, 1, 0)}, span(1, 1), map[int]string{0: "000", 100000: "000"}},
		{3, []int{2, 0, 2}, nil, span(1, 60), map[int]string{0: "202", 100000: "202"}},
		// Sick ones pass it on from the day 0 on, either of the two to the other one.
		{3, []int{1}, []api.Meet{close(0, 1, 0), close(1, 2, 0)}, span(1, 2), map[int]string{0: "020", 1: "121", 2: "222"}},
		// Who catches it on a day passes it on from the day on which he is sick, not before.
		{3, []int{0}, []api.Meet{close(0, 1, 4), close(1, 2, 4)}, span(1, 1), map[int]string{4: "200", 5: "220", 100000: "220"}},
		{3, []int{0}, []api.Meet{close(0, 1, 4), close(1, 2, 5)}, span(2, 2), map[int]string{100000: "220"}},
		{3, []int{0}, []api.Meet{close(0, 1, 4), close(1, 2, 6)}, span(2, 2), map[int]string{7: "220", 8: "222"}},
		{3, []int{0}, []api.Meet{close(0, 1, 4), close(1, 2, 6)}, span(2, 3), map[int]string{6: "210", 7: "220", 8: "221", 100000: "221"}},
		{3, []int{0}, []api.Meet{close(0, 1, 4), close(1, 2, 7)}, span(2, 3), map[int]string{8: "220", 9: "221", 10: "222"}},
		// A meeting that is not close tells nothing for sure; a later one that is close does.
		{2, []int{0}, []api.Meet{open(0, 1, 3)}, span(1, 2), map[int]string{3: "20", 4: "21", 100000: "21"}},
		{2, []int{0}, []api.Meet{close(0, 1, 9), open(1, 0, 3)}, span(1, 2), map[int]string{3: "20", 4: "21", 10: "21", 11: "22"}},
		// Meetings in any order, and at the end of all days.
		{4, []int{0}, []api.Meet{close(2, 3, 99998), close(1, 2, 99996), close(0, 1, 99994)}, span(1, 2), map[int]string{99994: "2000", 99996: "2200", 99998: "2220", 99999: "2221", 100000: "2222"}},
		{2, []int{0}, []api.Meet{close(0, 1, 100000)}, span(1, 60), map[int]string{100000: "20"}},
		{2, []int{0}, []api.Meet{close(0, 1, 99940)}, span(60, 60), map[int]string{99999: "20", 100000: "22"}},
		{1, []int{0}, nil, span(60, 60), map[int]string{5: "2"}},
	} {
		for day, want := range x.want {
			l, e := camel.Mange(x.n, x.first, x.meets, x.wait, day)
			for k := range l {
				l[k] += '0'
			}
			if string(l) != want || e != api.OK {
				t.Error(i, day, string(l), e)
			}
		}
	}
}

func TestMangeErrors(t *testing.T) {
	many, far := make([]int, 31), make([]api.Meet, 201)
	for i, x := range []struct {
		n     int
		first []int
		meets []api.Meet
		wait  api.Span
		day   int
		e     api.Errno
	}{
		{30, make([]int, 30), slices.Repeat([]api.Meet{{A: 29, Day: 100000}}, 200), span(1, 60), 100000, api.OK},
		{0, many, far, span(1, 1), 0, api.ErrArg},
		{31, many, far, span(1, 1), 0, api.ErrArg},
		{math.MinInt, nil, nil, span(1, 1), 0, api.ErrArg},
		{math.MaxInt, nil, nil, span(1, 1), 0, api.ErrArg},
		{2, many, far, span(0, 1), 0, api.ErrArg},
		{2, many, far, span(1, 61), 0, api.ErrArg},
		{2, many, far, span(3, 2), 0, api.ErrArg},
		{2, many, far, span(math.MinInt, math.MaxInt), 0, api.ErrArg},
		{2, many, far, span(1, 1), -1, api.ErrArg},
		{2, many, far, span(1, 1), 100001, api.ErrArg},
		{2, many, far, span(1, 1), math.MaxInt, api.ErrArg},
		{2, many, []api.Meet{{}}, span(1, 1), 0, api.ErrMany},
		{2, []int{7}, far, span(1, 1), 0, api.ErrMany},
		{2, []int{2}, nil, span(1, 1), 0, api.ErrMeet},
		{2, []int{0, -1}, nil, span(1, 1), 0, api.ErrMeet},
		{2, []int{math.MinInt}, nil, span(1, 1), 0, api.ErrMeet},
		{2, nil, []api.Meet{{A: 0, B: 1}, {A: 2, B: 1}}, span(1, 1), 0, api.ErrMeet},
		{2, nil, []api.Meet{{A: -1, B: 1}}, span(1, 1), 0, api.ErrMeet},
		{2, nil, []api.Meet{{A: 1, B: 2}}, span(1, 1), 0, api.ErrMeet},
		{2, nil, []api.Meet{{A: 1, B: math.MinInt}}, span(1, 1), 0, api.ErrMeet},
		{2, nil, []api.Meet{{A: 1, B: 1}}, span(1, 1), 0, api.ErrMeet},
		{2, nil, []api.Meet{{A: 1, B: 0, Day: -1}}, span(1, 1), 0, api.ErrMeet},
		// An invalid meeting counts also after the day that is asked for.
		{2, nil, []api.Meet{{A: 1, B: 0, Day: 100001}}, span(1, 1), 0, api.ErrMeet},
		{2, nil, []api.Meet{{A: 1, B: 0, Day: math.MaxInt}}, span(1, 1), 0, api.ErrMeet},
	} {
		l, e := camel.Mange(x.n, x.first, x.meets, x.wait, x.day)
		if e != x.e || e != api.OK && len(l) != 0 || e == api.OK && len(l) != x.n {
			t.Error(i, l, e)
		}
	}
}

// herd is a case of mange; its meetings are in order.
type herd struct {
	n     int
	first []int
	meets []api.Meet
	wait  api.Span
}

func randomHerd(r *rand.Rand) herd {
	lo := 1 + r.IntN(3)
	h := herd{n: 2 + r.IntN(3), wait: span(lo, lo+r.IntN(2))}
	for range 1 + r.IntN(2) {
		h.first = append(h.first, r.IntN(h.n))
	}
	for range r.IntN(6) {
		a := r.IntN(h.n)
		b := (a + 1 + r.IntN(h.n-1)) % h.n
		h.meets = append(h.meets, api.Meet{A: a, B: b, Day: r.IntN(8), Close: r.IntN(2) == 0})
	}
	slices.SortStableFunc(h.meets, func(a, b api.Meet) int { return a.Day - b.Day })
	return h
}

// sickDays returns from which day on each animal is sick (or 1000) in one truth: bit i of passes is that at the meeting i it is passed on, waits how long it takes with each animal.
func (h herd) sickDays(passes int, waits []int) []int {
	from := slices.Repeat([]int{1000}, h.n)
	for _, i := range h.first {
		from[i] = 0
	}
	for i, m := range h.meets {
		if !m.Close && passes>>i&1 == 0 {
			continue
		}
		a, b := from[m.A], from[m.B]
		if a <= m.Day && b == 1000 {
			from[m.B] = m.Day + waits[m.B]
		}
		if b <= m.Day && a == 1000 {
			from[m.A] = m.Day + waits[m.A]
		}
	}
	return from
}

// truths calls a function with the sick days of every truth.
func (h herd) truths(told func(from []int)) {
	waits := slices.Repeat([]int{h.wait.Lo}, h.n)
	for {
		for passes := range 1 << len(h.meets) {
			told(h.sickDays(passes, waits))
		}
		i := 0
		for i < h.n && waits[i] == h.wait.Hi {
			waits[i] = h.wait.Lo
			i++
		}
		if i == h.n {
			return
		}
		waits[i]++
	}
}

// P1.11: against all truths of small herds.
func TestMangeTruths(t *testing.T) {
	r := rand.New(rand.NewPCG(1, 8))
	for range 1500 {
		h := randomHerd(r)
		least, most := slices.Repeat([]int{1000}, h.n), make([]int, h.n)
		h.truths(func(from []int) {
			for i, day := range from {
				least[i], most[i] = min(least[i], day), max(most[i], day)
			}
		})
		shuffled := slices.Clone(h.meets)
		r.Shuffle(len(shuffled), func(i, k int) { shuffled[i], shuffled[k] = shuffled[k], shuffled[i] })
		for day := range 20 {
			want := make([]uint8, h.n)
			for i := range want {
				if most[i] <= day {
					want[i] = api.KnownYes
				} else if least[i] <= day {
					want[i] = api.KnownOpen
				}
			}
			if got, e := camel.Mange(h.n, h.first, shuffled, h.wait, day); !slices.Equal(got, want) || e != api.OK {
				t.Fatal(h, day, got, e, "want", want)
			}
		}
	}
}
