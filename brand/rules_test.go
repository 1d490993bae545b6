package brand_test

import (
	"math"
	"math/rand/v2"
	"slices"
	"testing"

	"azalai/api"
	"azalai/brand"
)

// The signatures of the chapter.
var (
	_ func([]api.Animal) api.Errno                                      = brand.Check
	_ func([]api.Animal) ([]api.Span, api.Errno)                        = brand.Births
	_ func([]api.Animal, api.Look) ([]int, api.Errno)                   = brand.Fits
	_ func([]api.Animal, []api.Look, []api.Calf) ([][]int, api.Errno)   = brand.Names
	_ func([]api.Animal, int) ([]int, api.Errno)                        = brand.Telltale
	_ func([]api.Animal, int) ([]int, api.Errno)                        = brand.Line
	_ func([]api.Animal, int, int) (int, int, api.Errno)                = brand.Kin
	_ func(api.Span, []api.Row) ([]api.Span, []api.Row, int, api.Errno) = brand.Tally
)

// outcome is the error of a call, and whether all its other results are zero values.
type outcome struct {
	e    api.Errno
	zero bool
}

func ofList[T any](l []T, e api.Errno) outcome { return outcome{e, len(l) == 0} }

// outcomes calls each function with a herd.
func outcomes(l []api.Animal, looks []api.Look, calves []api.Calf, id, other int) map[string]outcome {
	up, down, kin := brand.Kin(l, id, other)
	return map[string]outcome{
		"Check":    {brand.Check(l), true},
		"Births":   ofList(brand.Births(l)),
		"Fits":     ofList(brand.Fits(l, looks[0])),
		"Names":    ofList(brand.Names(l, looks, calves)),
		"Telltale": ofList(brand.Telltale(l, id)),
		"Line":     ofList(brand.Line(l, id)),
		"Kin":      {kin, up == 0 && down == 0},
	}
}

// R1, R2: of several errors the first one, with zero values.
func TestOrderOfErrors(t *testing.T) {
	badHerd := inHerd(func(a *api.Animal) { a.Marks = make([]api.Mark, 1) })
	noDams := inHerd(func(a *api.Animal) { a.Born, a.Marks = span(0, 0), []api.Mark{mark(0, 3)} })
	badLooks := make([]api.Look, 5)
	manyCalves := make([]api.Calf, 7)
	nobody := look(6000, anyAge(), 0)
	for i, x := range []struct {
		herd   []api.Animal
		looks  []api.Look
		calves []api.Calf
		a, b   int
		due    map[string]api.Errno
		other  api.Errno
	}{
		{badHerd, badLooks, manyCalves, -1, -1, nil, api.ErrHerd},
		{noDams, badLooks, manyCalves, -1, -1, map[string]api.Errno{"Check": api.OK, "Telltale": api.ErrArg, "Line": api.ErrArg, "Kin": api.ErrArg}, api.ErrDams},
		// What has nothing to do with births has no error without them.
		{noDams, badLooks, manyCalves, 1, 5, map[string]api.Errno{"Check": api.OK, "Telltale": api.ErrNone, "Line": api.OK, "Kin": api.ErrArg}, api.ErrDams},
		{herd(), badLooks, nil, 5, 1, map[string]api.Errno{"Fits": api.ErrLook, "Names": api.ErrMany, "Telltale": api.ErrArg, "Line": api.ErrArg, "Kin": api.ErrArg}, api.OK},
		{herd(), badLooks[:4], manyCalves, 1, 1, map[string]api.Errno{"Fits": api.ErrLook, "Names": api.ErrMany, "Telltale": api.ErrNone}, api.OK},
		{herd(), badLooks[:1], manyCalves[:6], 4, 4, map[string]api.Errno{"Fits": api.ErrLook, "Names": api.ErrLook}, api.OK},
		{herd(), []api.Look{nobody}, manyCalves[:6], 4, 4, map[string]api.Errno{"Names": api.ErrLook}, api.OK},
		{herd(), []api.Look{nobody, badLooks[0]}, nil, 4, 4, map[string]api.Errno{"Names": api.ErrLook}, api.OK},
		{herd(), []api.Look{nobody}, nil, 4, 4, map[string]api.Errno{"Names": api.ErrNobody}, api.OK},
	} {
		for name, got := range outcomes(x.herd, x.looks, x.calves, x.a, x.b) {
			due, named := x.due[name]
			if !named {
				due = x.other
			}
			if got.e != due || due != api.OK && !got.zero {
				t.Error(i, name, got, "want", due)
			}
		}
	}
}

// edge returns a number that may be at an edge of what is valid.
func edge(r *rand.Rand, least, most int) int {
	if r.IntN(25) > 0 {
		return least + r.IntN(most-least+1)
	}
	return []int{math.MinInt, -1 << 32, least - 1, least, most, most + 1, 1 << 32, 1 << 62, math.MaxInt}[r.IntN(9)]
}

func edges(r *rand.Rand, least, most int) api.Span {
	a, b := edge(r, least, most), edge(r, least, most)
	if r.IntN(25) > 0 {
		a, b = min(a, b), max(a, b)
	}
	return span(a, b)
}

func anyHerd(r *rand.Rand) []api.Animal {
	l := make([]api.Animal, r.IntN(5)+r.IntN(2)*r.IntN(14))
	ids := r.Perm(40)
	for i := range l {
		l[i] = beast(ids[i], -1, edges(r, -100000, 100000))
		if r.IntN(30) == 0 {
			l[i].Id = edge(r, 0, 9999)
		}
		if i > 0 && r.IntN(2) == 0 {
			l[i].Mother = ids[r.IntN(i)]
		}
		if r.IntN(30) == 0 {
			l[i].Mother = edge(r, 0, 40)
		}
		for range r.IntN(2) {
			l[i].Marks = append(l[i].Marks, mark(edge(r, 0, 7), edge(r, 1, 20)))
		}
	}
	return l
}

// R5, R6, R7: any values lead to an end without a panic, and to zero values beside an error.
func TestAnyValue(t *testing.T) {
	r := rand.New(rand.NewPCG(2, 7))
	seen := map[api.Errno]int{}
	for range 20000 {
		l := anyHerd(r)
		looks := make([]api.Look, 1+r.IntN(3))
		for i := range looks {
			looks[i] = look(edge(r, 0, 100000), edges(r, 0, 200000))
			looks[i].Signs[r.IntN(8)] = uint32(edge(r, 0, anything))
		}
		calves := make([]api.Calf, r.IntN(3))
		for i := range calves {
			calves[i] = api.Calf{Dam: edge(r, 0, 2), Young: edge(r, 0, 2)}
		}
		id, other := edge(r, 0, 40), edge(r, 0, 40)
		if len(l) > 1 {
			id, other = l[0].Id, l[1].Id
		}
		all := outcomes(l, looks, calves, id, other)
		for name, got := range all {
			if got.e != api.OK && !got.zero || (got.e == api.ErrHerd) != (all["Check"].e == api.ErrHerd) {
				t.Fatal(name, l, looks, calves, got)
			}
			seen[got.e]++
		}
	}
	for range 20000 {
		rows := make([]api.Row, r.IntN(4))
		for i := range rows {
			for _, s := range rowSpans(&rows[i]) {
				*s = edges(r, 0, 100000)
			}
		}
		counts, known, at, e := brand.Tally(edges(r, 0, 100000), rows)
		seen[e]++
		if e != api.OK && len(counts)+len(known) != 0 || e == api.OK && (len(counts) != len(rows)+1 || len(known) != len(rows) || at != 0) || at > len(rows) {
			t.Fatal(rows, counts, known, at, e)
		}
	}
	for _, e := range []api.Errno{api.OK, api.ErrArg, api.ErrNone, api.ErrHerd, api.ErrDams, api.ErrLook, api.ErrNobody, api.ErrRow, api.ErrTally} {
		if seen[e] < 20 {
			t.Error(e, seen)
		}
	}
}

// R7: the most that is valid ends soon: four looks at 16 animals that all fit.
func TestMost(t *testing.T) {
	l := make([]api.Animal, 16)
	for i := range l {
		l[i] = beast(i, i-1-i%2, span(-100000, 100000))
		for spot := range 8 {
			l[i].Marks = append(l[i].Marks, mark(spot, 1+i>>(spot%4)&1))
		}
	}
	l[1].Mother = -1
	all := slices.Repeat([]api.Look{look(100000, anyAge())}, 4)
	for _, calves := range [][]api.Calf{nil, {{Dam: 0, Young: 3}}} {
		if names, e := brand.Names(l, all, calves); len(names) != 4 || e != api.OK {
			t.Error(names, e)
		}
	}
	if spots, e := brand.Telltale(l, 0); !slices.Equal(spots, []int{0, 1, 2, 3}) || e != api.OK {
		t.Error(spots, e)
	}
}

// spare returns a list whose memory goes on behind its end.
func spare[T any](l []T, behind T) []T {
	return append(slices.Clone(l), behind, behind)[:len(l)]
}

// whole returns a copy of a list and of the memory behind its end that spare made.
func whole[T any](l []T) []T { return slices.Clone(l[:len(l)+2]) }

func equalAnimals(a, b api.Animal) bool {
	return a.Id == b.Id && a.Mother == b.Mother && a.Born == b.Born && slices.Equal(a.Marks, b.Marks)
}

func equalLooks(a, b api.Look) bool {
	return slices.Equal(a.Signs, b.Signs) && a.Day == b.Day && a.Age == b.Age
}

// R3: no argument is written to, nor what lies behind its end.
func TestArguments(t *testing.T) {
	beyond := beast(77, 77, span(77, 77))
	l, behind := spare(herd(), beyond), [][]api.Mark{}
	// Calves before their mothers, and marks in descending order, invite to be put in order.
	slices.Reverse(l)
	for i := range l {
		slices.Reverse(l[i].Marks)
		l[i].Marks = spare(l[i].Marks, mark(77, 77))
		behind = append(behind, whole(l[i].Marks))
	}
	looks := spare([]api.Look{threeOnZero(4650), fiveOrNothingOnOne()}, api.Look{Day: 77})
	for i := range looks {
		looks[i].Signs = spare(looks[i].Signs, 77)
	}
	calves := spare([]api.Calf{{Dam: 0, Young: 1}}, api.Calf{Dam: 77})
	rows := spare([]api.Row{{Born: span(1, 2), Died: span(0, 4), Count: span(11, 11)}, {Sold: wide(), Count: wide()}}, api.Row{Born: span(77, 77)})
	l2, looks2, calves2, rows2, signs2 := whole(l), whole(looks), whole(calves), whole(rows), whole(looks[0].Signs)

	for _, id := range []int{1, 2, 3, 4} {
		outcomes(l, looks, calves, id, 4)
	}
	brand.Fits(l, looks[1])
	brand.Tally(span(10, 12), rows)

	if !slices.EqualFunc(whole(l), l2, equalAnimals) || !slices.EqualFunc(whole(looks), looks2, equalLooks) || !slices.Equal(whole(calves), calves2) || !slices.Equal(whole(rows), rows2) {
		t.Error("an argument is written to", whole(l), whole(looks), whole(calves), whole(rows))
	}
	for i := range l {
		if !slices.Equal(whole(l[i].Marks), behind[i]) {
			t.Error("marks are written to", whole(l[i].Marks))
		}
	}
	if !slices.Equal(whole(looks[0].Signs), signs2) {
		t.Error("signs are written to", whole(looks[0].Signs))
	}
}

// spoil overwrites a list with all its memory.
func spoil[T any](l []T, with T) {
	l = l[:cap(l)]
	for i := range l {
		l[i] = with
	}
}

// R3: results share no memory with arguments or with each other, and no call remembers another one.
func TestResults(t *testing.T) {
	l, rows := herd(), []api.Row{{Born: span(1, 2), Died: span(0, 4), Count: span(11, 11)}}
	looks := []api.Look{look(20000, anyAge()), look(20000, anyAge())}
	for range 2 {
		names, _ := brand.Names(l, looks, nil)
		for i := range names {
			if !slices.Equal(names[i], []int{1, 2, 3, 4}) {
				t.Error(i, names)
			}
			spoil(names[i], 77)
		}
		spoil(names, nil)
		born, _ := brand.Births(l)
		fit, _ := brand.Fits(l, looks[0])
		spots, _ := brand.Telltale(l, 2)
		line, _ := brand.Line(l, 4)
		counts, known, _, _ := brand.Tally(span(10, 12), rows)
		spoil(counts, span(77, 77))
		if known[0].Count != span(11, 11) || known[0].Died != span(0, 3) {
			t.Error(known)
		}
		spoil(known, api.Row{})
		if !slices.Equal(fit, []int{1, 2, 3, 4}) || !slices.Equal(spots, []int{0, 1}) || !slices.Equal(line, []int{2, 1}) || born[1] != span(1400, 1600) {
			t.Error(fit, spots, line, born)
		}
		spoil(born, span(77, 77))
		spoil(fit, 77)
		spoil(spots, 77)
		spoil(line, 77)
	}
	if !slices.EqualFunc(l, herd(), equalAnimals) || rows[0].Died != span(0, 4) {
		t.Error(l, rows)
	}
}

// R4.
func TestNilAndEmpty(t *testing.T) {
	bare := []api.Animal{beast(1, -1, span(0, 0))}
	empty := []api.Animal{{Id: 1, Mother: -1, Marks: []api.Mark{}}}
	for _, l := range [][]api.Animal{bare, empty} {
		if got, e := brand.Fits(l, look(5, anyAge(), 1)); !slices.Equal(got, []int{1}) || e != api.OK {
			t.Error(got, e)
		}
		if got, e := brand.Names(l, []api.Look{}, []api.Calf{}); len(got) != 0 || e != api.OK {
			t.Error(got, e)
		}
		if got, e := brand.Telltale(append(l, beast(2, -1, span(0, 0))), 1); len(got) != 0 || e != api.ErrNone {
			t.Error(got, e)
		}
	}
	for _, l := range [][]api.Animal{nil, {}} {
		born, e := brand.Births(l)
		fit, f := brand.Fits(l, look(5, anyAge()))
		names, g := brand.Names(l, nil, nil)
		if len(born)+len(fit)+len(names) != 0 || e != api.OK || f != api.OK || g != api.OK {
			t.Error(born, e, fit, f, names, g)
		}
	}
	for _, rows := range [][]api.Row{nil, {}} {
		counts, known, at, e := brand.Tally(span(1, 2), rows)
		if !slices.Equal(counts, []api.Span{span(1, 2)}) || len(known) != 0 || at != 0 || e != api.OK {
			t.Error(counts, known, at, e)
		}
	}
	if _, e := brand.Fits(nil, api.Look{}); e != api.ErrLook {
		t.Error(e)
	}
}
