package brand_test

import (
	"math"
	"slices"
	"testing"

	"azalai/api"
	"azalai/brand"
)

func span(lo, hi int) api.Span { return api.Span{Lo: lo, Hi: hi} }

// with returns a value with a change, if there is one.
func with[T any](v T, change func(*T)) T {
	if change != nil {
		change(&v)
	}
	return v
}

func beast(id, mother int, born api.Span, marks ...api.Mark) api.Animal {
	return api.Animal{Id: id, Mother: mother, Born: born, Marks: marks}
}

func mark(spot, sign int) api.Mark { return api.Mark{Spot: spot, Sign: sign} }

// The herd of the chapter's examples.
func herd() []api.Animal {
	return []api.Animal{
		beast(1, -1, span(0, 100), mark(0, 3)),
		beast(2, 1, span(1300, 1600), mark(0, 3), mark(1, 5)),
		beast(3, 1, span(5000, 20000), mark(0, 3)),
		beast(4, 2, span(2900, 3100), mark(1, 5)),
	}
}

const anything = 1<<21 - 1

// look returns a look that saw some signs on the first spots, and anything elsewhere.
func look(day int, age api.Span, signs ...uint32) api.Look {
	for len(signs) < 8 {
		signs = append(signs, anything)
	}
	return api.Look{Signs: signs, Day: day, Age: age}
}

func anyAge() api.Span { return span(0, 200000) }

// threeOnZero is the look of the chapter's examples.
func threeOnZero(most int) api.Look { return look(6000, span(0, most), 1<<3) }

func fiveOrNothingOnOne() api.Look { return look(6000, anyAge(), anything, 1<<5|1) }

func equalLists(a, b [][]int) bool { return slices.EqualFunc(a, b, slices.Equal[[]int]) }

func TestExamples(t *testing.T) {
	born := []api.Span{span(0, 100), span(1400, 1600), span(5000, 10100), span(2900, 3100)}
	if l, e := brand.Births(herd()); !slices.Equal(l, born) || e != api.OK {
		t.Error("Births", l, e)
	}
	for age, want := range map[int][]int{3000: {3}, 4650: {2, 3}} {
		if l, e := brand.Fits(herd(), threeOnZero(age)); !slices.Equal(l, want) || e != api.OK {
			t.Error("Fits", age, l, e)
		}
	}
	looks := []api.Look{threeOnZero(4650), fiveOrNothingOnOne()}
	if l, e := brand.Names(herd(), looks, []api.Calf{{Dam: 0, Young: 1}}); !equalLists(l, [][]int{{2}, {4}}) || e != api.OK {
		t.Error("Names", l, e)
	}
	if l, e := brand.Telltale(herd(), 1); len(l) != 0 || e != api.ErrNone {
		t.Error("Telltale", l, e)
	}
	for id, want := range map[int][]int{2: {0, 1}, 4: {0}} {
		if l, e := brand.Telltale(herd(), id); !slices.Equal(l, want) || e != api.OK {
			t.Error("Telltale", id, l, e)
		}
	}
	if l, e := brand.Line(herd(), 4); !slices.Equal(l, []int{2, 1}) || e != api.OK {
		t.Error("Line", l, e)
	}
	if up, down, e := brand.Kin(herd(), 4, 3); up != 2 || down != 1 || e != api.OK {
		t.Error("Kin", up, down, e)
	}
	rows := []api.Row{{Born: span(1, 2), Died: span(0, 4), Count: span(11, 11)}}
	counts, known, at, e := brand.Tally(span(10, 12), rows)
	rows[0].Died.Hi = 3
	if !slices.Equal(counts, []api.Span{span(10, 12), span(11, 11)}) || !slices.Equal(known, rows) || at != 0 || e != api.OK {
		t.Error("Tally", counts, known, at, e)
	}
}

// beasts returns n animals without mothers.
func beasts(n int) []api.Animal {
	l := make([]api.Animal, n)
	for i := range l {
		l[i] = beast(i, -1, span(0, 0))
	}
	return l
}

// inHerd returns the herd of the examples with a change of its animal 2.
func inHerd(change func(*api.Animal)) []api.Animal {
	l := herd()
	change(&l[1])
	return l
}

// spanCases are spans at the edges of those from a number to another one, with whether they are among them.
func spanCases(least, most int) map[api.Span]bool {
	return map[api.Span]bool{
		span(least, least): true, span(least, most): true, span(most, most): true, span(1, 1): true, span(0, 1): true,
		span(least-1, least): false, span(least, most+1): false, span(most+1, most+1): false, span(1, 0): false, span(most, most-1): false,
		span(math.MinInt, math.MaxInt): false, span(math.MaxInt, math.MinInt): false, span(math.MinInt, 0): false, span(0, math.MaxInt): false,
		span(math.MinInt, math.MinInt): false, span(math.MaxInt, math.MaxInt): false,
	}
}

func numberCases(least, most int) map[int]bool {
	return map[int]bool{
		least: true, most: true, least + 1: true, least - 1: false, most + 1: false,
		math.MinInt: false, math.MaxInt: false, least + 1<<32: false, least - 1<<32: false,
	}
}

// due returns no error for what is valid, and a certain one for all else.
func due(valid bool, bad api.Errno) api.Errno {
	if valid {
		return api.OK
	}
	return bad
}

// P2.1: which herds are valid.
func TestCheck(t *testing.T) {
	eight := make([]api.Mark, 8)
	for i := range eight {
		eight[i] = mark(7-i, 1+i%2)
	}
	for i, x := range []struct {
		herd  []api.Animal
		valid bool
	}{
		{herd(), true},
		{nil, true},
		{[]api.Animal{}, true},
		{beasts(16), true},
		{beasts(17), false},
		{beasts(1000), false},
		// An animal may stand before its mother, and mothers in any order.
		{[]api.Animal{beast(9999, 0, span(5, 5)), beast(0, 7, span(5, 5)), beast(7, -1, span(5, 5))}, true},
		{[]api.Animal{beast(5, -1, span(0, 0)), beast(6, -1, span(0, 0)), beast(5, -1, span(0, 0))}, false},
		// Circles of one, two and three, and one whose line leads into a circle.
		{[]api.Animal{beast(5, 5, span(0, 0))}, false},
		{[]api.Animal{beast(5, 6, span(0, 0)), beast(6, 5, span(0, 0))}, false},
		{[]api.Animal{beast(5, 6, span(0, 0)), beast(6, 7, span(0, 0)), beast(7, 5, span(0, 0))}, false},
		{[]api.Animal{beast(1, -1, span(0, 0)), beast(5, 6, span(0, 0)), beast(6, 7, span(0, 0)), beast(7, 6, span(0, 0))}, false},
		{inHerd(func(a *api.Animal) { a.Mother = 5 }), false},
		{inHerd(func(a *api.Animal) { a.Mother = 0 }), false},
		{inHerd(func(a *api.Animal) { a.Mother = -2 }), false},
		{inHerd(func(a *api.Animal) { a.Mother = math.MinInt }), false},
		{inHerd(func(a *api.Animal) { a.Mother = math.MaxInt }), false},
		{inHerd(func(a *api.Animal) { a.Mother = 3 }), true},
		{inHerd(func(a *api.Animal) { a.Mother = 4 }), false},
		{inHerd(func(a *api.Animal) { a.Marks = nil }), true},
		{inHerd(func(a *api.Animal) { a.Marks = eight }), true},
		{inHerd(func(a *api.Animal) { a.Marks = append(slices.Clone(eight), mark(7, 1)) }), false},
		{inHerd(func(a *api.Animal) { a.Marks = []api.Mark{mark(2, 1), mark(3, 1), mark(2, 1)} }), false},
		{inHerd(func(a *api.Animal) { a.Marks = []api.Mark{mark(2, 1), mark(2, 4)} }), false},
		{inHerd(func(a *api.Animal) { a.Marks = make([]api.Mark, 3) }), false},
	} {
		if e := brand.Check(x.herd); e != due(x.valid, api.ErrHerd) {
			t.Error(i, e)
		}
	}
}

// P2.1, R5: the numbers of an animal at their edges.
func TestCheckNumbers(t *testing.T) {
	for s, valid := range spanCases(-100000, 100000) {
		if e := brand.Check(inHerd(func(a *api.Animal) { a.Born = s })); e != due(valid, api.ErrHerd) {
			t.Error("Born", s, e)
		}
	}
	for n, valid := range numberCases(0, 9999) {
		if e := brand.Check([]api.Animal{beast(n, -1, span(0, 0))}); e != due(valid, api.ErrHerd) {
			t.Error("Id", n, e)
		}
	}
	if e := brand.Check([]api.Animal{beast(-1, -1, span(0, 0))}); e != api.ErrHerd {
		t.Error(e)
	}
	for n, valid := range numberCases(0, 7) {
		if e := brand.Check(inHerd(func(a *api.Animal) { a.Marks = []api.Mark{mark(n, 1)} })); e != due(valid, api.ErrHerd) {
			t.Error("Spot", n, e)
		}
	}
	for n, valid := range numberCases(1, 20) {
		if e := brand.Check(inHerd(func(a *api.Animal) { a.Marks = []api.Mark{mark(1, n)} })); e != due(valid, api.ErrHerd) {
			t.Error("Sign", n, e)
		}
	}
}

// P2.1: births are bound by mothers, by calves, and by sisters.
func TestBirths(t *testing.T) {
	far := span(-100000, 100000)
	for i, x := range []struct {
		herd []api.Animal
		want []api.Span
		e    api.Errno
	}{
		{nil, nil, api.OK},
		{[]api.Animal{beast(1, -1, far)}, []api.Span{far}, api.OK},
		{[]api.Animal{beast(1, -1, span(0, 0)), beast(2, 1, far)}, []api.Span{span(0, 0), span(1400, 10000)}, api.OK},
		{[]api.Animal{beast(1, 2, span(0, 0)), beast(2, -1, far)}, []api.Span{span(0, 0), span(-10000, -1400)}, api.OK},
		{[]api.Animal{beast(1, -1, far), beast(2, 1, far)}, []api.Span{span(-100000, 98600), span(-98600, 100000)}, api.OK},
		// Each is exactly as old as it may be.
		{[]api.Animal{beast(1, -1, span(5, 5)), beast(2, 1, span(0, 1405))}, []api.Span{span(5, 5), span(1405, 1405)}, api.OK},
		{[]api.Animal{beast(1, -1, span(5, 5)), beast(2, 1, span(0, 1404))}, nil, api.ErrDams},
		{[]api.Animal{beast(1, -1, span(5, 5)), beast(2, 1, span(10005, 20000))}, []api.Span{span(5, 5), span(10005, 10005)}, api.OK},
		{[]api.Animal{beast(1, -1, span(5, 5)), beast(2, 1, span(10006, 20000))}, nil, api.ErrDams},
		// Sisters bind each other by their mother.
		{[]api.Animal{beast(1, 3, span(0, 0)), beast(2, 3, far), beast(3, -1, far)}, []api.Span{span(0, 0), span(-8600, 8600), span(-10000, -1400)}, api.OK},
		{[]api.Animal{beast(1, 3, span(0, 0)), beast(2, 3, span(8600, 9000)), beast(3, -1, far)}, []api.Span{span(0, 0), span(8600, 8600), span(-1400, -1400)}, api.OK},
		{[]api.Animal{beast(1, 3, span(0, 0)), beast(2, 3, span(8601, 9000)), beast(3, -1, far)}, nil, api.ErrDams},
		// A calf binds its mother's mother, and her other calves.
		{
			[]api.Animal{beast(1, 2, span(0, 0)), beast(2, 3, far), beast(3, -1, far), beast(4, 3, span(7000, 90000)), beast(5, -1, span(7, 9))},
			[]api.Span{span(0, 0), span(-1600, -1400), span(-3000, -2800), span(7000, 7200), span(7, 9)}, api.OK,
		},
		// What is valid at no births: a mother that is born after her calf.
		{[]api.Animal{beast(1, 2, span(0, 0)), beast(2, -1, span(1, 100000))}, nil, api.ErrDams},
		{[]api.Animal{beast(1, -1, span(9, 9)), beast(2, 3, span(-100000, -100000)), beast(3, -1, far)}, nil, api.ErrDams},
	} {
		if l, e := brand.Births(x.herd); !slices.Equal(l, x.want) || e != x.e {
			t.Error(i, l, e)
		}
	}
}

// P2.2: a look by its signs and by its ages, each at its edges.
func TestFits(t *testing.T) {
	none := uint32(1)
	for i, x := range []struct {
		l    api.Look
		want []int
	}{
		{look(20000, anyAge()), []int{1, 2, 3, 4}},
		{look(20000, anyAge(), none), []int{4}},
		{look(20000, anyAge(), anything-1<<3), []int{4}},
		{look(20000, anyAge(), 1<<3|none), []int{1, 2, 3, 4}},
		{look(20000, anyAge(), anything, 1<<5), []int{2, 4}},
		{look(20000, anyAge(), anything, anything-1<<5), []int{1, 3}},
		{look(20000, anyAge(), 1<<3, none, none, none, none, none, none, none), []int{1, 3}},
		{look(20000, anyAge(), 1<<4), nil},
		{look(20000, anyAge(), anything, anything, 0), nil},
		{look(20000, anyAge(), anything, anything, anything, anything, anything, anything, anything, 1<<20), nil},
		// Animals are born 0 to 100, 1,400 to 1,600, 5,000 to 10,100, and 2,900 to 3,100.
		{look(20000, span(19900, 20000)), []int{1}},
		{look(20000, span(18600, 19899)), []int{2}},
		{look(20000, span(18600, 19900)), []int{1, 2}},
		{look(20000, span(18601, 19899)), nil},
		{look(20000, span(20001, 200000)), nil},
		{look(20000, span(20000, 20000)), []int{1}},
		{look(20000, span(9900, 9900)), []int{3}},
		{look(20000, span(0, 9899)), nil},
		{look(20000, span(15000, 16900)), []int{3, 4}},
		{look(20000, span(15001, 16899)), nil},
		// One that is not born yet has no age.
		{look(0, anyAge()), []int{1}},
		{look(1399, anyAge()), []int{1}},
		{look(1400, anyAge()), []int{1, 2}},
	} {
		if l, e := brand.Fits(herd(), x.l); !slices.Equal(l, x.want) || e != api.OK {
			t.Error(i, l, e)
		}
	}
	l := []api.Animal{beast(7, -1, span(-5, -5)), beast(9999, -1, span(0, 0)), beast(0, -1, span(-100000, -100000)), beast(10, -1, span(0, 0))}
	if l, e := brand.Fits(l, look(100000, anyAge())); !slices.Equal(l, []int{0, 7, 10, 9999}) || e != api.OK {
		t.Error("order", l, e)
	}
	if l, e := brand.Fits(l, look(100000, span(200000, 200000))); !slices.Equal(l, []int{0}) || e != api.OK {
		t.Error("oldest", l, e)
	}
}

// P2.2: which looks are valid.
func TestLooks(t *testing.T) {
	check := func(name any, l api.Look, valid bool) {
		t.Helper()
		_, e := brand.Fits(herd(), l)
		_, f := brand.Names(herd(), []api.Look{look(20000, anyAge()), l}, nil)
		if e != due(valid, api.ErrLook) || f != due(valid, api.ErrLook) && !(valid && f == api.ErrNobody) {
			t.Error(name, l, e, f)
		}
	}
	for s, valid := range spanCases(0, 200000) {
		check("Age", look(20000, s), valid)
	}
	for n, valid := range numberCases(0, 100000) {
		check("Day", look(n, anyAge()), valid)
	}
	for signs, valid := range map[uint32]bool{0: true, anything: true, 1 << 20: true, 1 << 21: false, anything + 2: false, math.MaxUint32: false} {
		for spot := range 8 {
			l := look(20000, anyAge())
			l.Signs[spot] = signs
			check(spot, l, valid)
		}
	}
	for n := range 20 {
		check(n, api.Look{Signs: slices.Repeat([]uint32{anything}, n), Day: 20000, Age: anyAge()}, n == 8)
	}
}

// P2.2: names by signs, by calves, and by births.
func TestNames(t *testing.T) {
	all := look(20000, anyAge())
	five := look(20000, anyAge(), anything, 1<<5)
	three := look(20000, anyAge(), 1<<3)
	for i, x := range []struct {
		looks  []api.Look
		calves []api.Calf
		want   [][]int
		e      api.Errno
	}{
		{nil, nil, nil, api.OK},
		{[]api.Look{three}, nil, [][]int{{1, 2, 3}}, api.OK},
		// No two looks are at one animal.
		{[]api.Look{five, five}, nil, [][]int{{2, 4}, {2, 4}}, api.OK},
		{[]api.Look{five, five, five}, nil, nil, api.ErrNobody},
		{[]api.Look{five, five, three}, nil, [][]int{{2, 4}, {2, 4}, {1, 3}}, api.OK},
		{[]api.Look{three, five, five}, nil, [][]int{{1, 3}, {2, 4}, {2, 4}}, api.OK},
		{[]api.Look{all, all, all, all}, nil, [][]int{{1, 2, 3, 4}, {1, 2, 3, 4}, {1, 2, 3, 4}, {1, 2, 3, 4}}, api.OK},
		{[]api.Look{look(20000, anyAge(), 1<<4)}, nil, nil, api.ErrNobody},
		{[]api.Look{all, look(20000, anyAge(), 1<<4)}, nil, nil, api.ErrNobody},
		// Calves.
		{[]api.Look{all, all}, []api.Calf{{Dam: 0, Young: 1}}, [][]int{{1, 2}, {2, 3, 4}}, api.OK},
		{[]api.Look{all, all}, []api.Calf{{Dam: 1, Young: 0}}, [][]int{{2, 3, 4}, {1, 2}}, api.OK},
		{[]api.Look{all, all}, []api.Calf{{Dam: 1, Young: 0}, {Dam: 1, Young: 0}}, [][]int{{2, 3, 4}, {1, 2}}, api.OK},
		{[]api.Look{all, all}, []api.Calf{{Dam: 1, Young: 0}, {Dam: 0, Young: 1}}, nil, api.ErrNobody},
		{[]api.Look{all, all, all}, []api.Calf{{Dam: 2, Young: 1}, {Dam: 1, Young: 0}}, [][]int{{4}, {2}, {1}}, api.OK},
		{[]api.Look{all, all, all}, []api.Calf{{Dam: 1, Young: 0}, {Dam: 1, Young: 2}}, [][]int{{2, 3}, {1}, {2, 3}}, api.OK},
		{[]api.Look{all, all, all}, []api.Calf{{Dam: 0, Young: 2}, {Dam: 1, Young: 2}}, nil, api.ErrNobody},
		{[]api.Look{five, all}, []api.Calf{{Dam: 0, Young: 1}}, [][]int{{2}, {4}}, api.OK},
	} {
		if l, e := brand.Names(herd(), x.looks, x.calves); !equalLists(l, x.want) || e != x.e {
			t.Error(i, l, e)
		}
	}
	if l, e := brand.Names(nil, nil, nil); len(l) != 0 || e != api.OK {
		t.Error(l, e)
	}
	if l, e := brand.Names(nil, []api.Look{all}, nil); len(l) != 0 || e != api.ErrNobody {
		t.Error(l, e)
	}
}

// P2.2: what a look says of one animal's age may exclude another one's, as births are the same for all looks.
func TestNamesByAges(t *testing.T) {
	pair := []api.Animal{beast(1, -1, span(0, 1000), mark(0, 3)), beast(2, 1, span(0, 20000)), beast(3, -1, span(0, 20000))}
	oneIsOld := look(30000, span(30000, 30000), 1<<3)
	for born, want := range map[int][]int{1399: {3}, 1400: {2, 3}, 10000: {2, 3}, 10001: {3}} {
		young := look(30000, span(30000-born, 30000-born))
		looks := []api.Look{oneIsOld, young, look(30000, anyAge())}
		l, e := brand.Names(pair, looks, nil)
		if e != api.OK || !slices.Equal(l[1], want) {
			t.Error(born, l, e)
		}
		// The same in any order of looks.
		slices.Reverse(looks)
		l, e = brand.Names(pair, looks, nil)
		if e != api.OK || !slices.Equal(l[1], want) {
			t.Error(born, l, e)
		}
	}
	calf := []api.Calf{{Dam: 1, Young: 0}}
	if l, e := brand.Names(pair, []api.Look{look(30000, span(28600, 28600)), look(30000, span(29999, 29999))}, calf); len(l) != 0 || e != api.ErrNobody {
		t.Error(l, e)
	}
	if l, e := brand.Names(pair, []api.Look{look(30000, span(28599, 28599)), look(30000, span(29999, 29999))}, calf); !equalLists(l, [][]int{{2}, {1}}) || e != api.OK {
		t.Error(l, e)
	}
}

// P2.2: which calves are valid, and how many looks and calves there may be.
func TestCalves(t *testing.T) {
	looks := []api.Look{look(20000, anyAge()), look(20000, anyAge()), look(20000, anyAge())}
	for n, valid := range numberCases(0, 2) {
		if n == 1 {
			continue
		}
		_, e := brand.Names(herd(), looks, []api.Calf{{Dam: 0, Young: 1}, {Dam: 1, Young: n}})
		_, f := brand.Names(herd(), looks, []api.Calf{{Dam: 0, Young: 1}, {Dam: n, Young: 1}})
		if (e != api.ErrLook) != valid || (f != api.ErrLook) != valid {
			t.Error(n, e, f)
		}
	}
	for n := range 3 {
		if _, e := brand.Names(herd(), looks, []api.Calf{{Dam: n, Young: n}}); e != api.ErrLook {
			t.Error(n, e)
		}
	}
	if _, e := brand.Names(herd(), nil, make([]api.Calf, 1)); e != api.ErrLook {
		t.Error(e)
	}
	six := slices.Repeat([]api.Calf{{Dam: 0, Young: 1}}, 6)
	if _, e := brand.Names(herd(), looks, six); e != api.OK {
		t.Error(e)
	}
	if _, e := brand.Names(herd(), looks, append(six, six[0])); e != api.ErrMany {
		t.Error(e)
	}
	if _, e := brand.Names(beasts(16), slices.Repeat(looks[:1], 4), nil); e != api.OK {
		t.Error(e)
	}
	if _, e := brand.Names(beasts(16), slices.Repeat(looks[:1], 5), nil); e != api.ErrMany {
		t.Error(e)
	}
}

// P2.3: the fewest spots, of these the first ones; nothing on a spot tells too.
func TestTelltale(t *testing.T) {
	marked := func(signs ...[]int) []api.Animal {
		l := beasts(len(signs))
		for i, s := range signs {
			for spot, sign := range s {
				if sign > 0 {
					l[i].Marks = append(l[i].Marks, mark(spot, sign))
				}
			}
			slices.Reverse(l[i].Marks)
		}
		return l
	}
	for i, x := range []struct {
		herd []api.Animal
		want []int
		e    api.Errno
	}{
		{marked(nil), nil, api.OK},
		{marked([]int{1, 2, 3}), nil, api.OK},
		{marked(nil, nil), nil, api.ErrNone},
		{marked([]int{4, 5}, []int{5, 4}, []int{4, 5}), nil, api.ErrNone},
		{marked([]int{4, 5}, []int{5, 5}), []int{0}, api.OK},
		{marked([]int{0, 0, 0, 0, 0, 0, 0, 20}, nil), []int{7}, api.OK},
		{marked(nil, []int{0, 0, 0, 0, 0, 0, 0, 20}), []int{7}, api.OK},
		{marked([]int{1, 2, 3}, []int{4, 5, 6}), []int{0}, api.OK},
		// One later spot is better than two that come before it.
		{marked([]int{1, 1, 1}, []int{1, 2, 2}, []int{2, 1, 2}), []int{2}, api.OK},
		// 0 1, 0 2 and 1 2 would all do.
		{marked([]int{1, 1, 1}, []int{1, 2, 2}, []int{2, 1, 2}, []int{2, 2, 1}), []int{0, 1}, api.OK},
		// 0 3 comes before 1 2, as its first number is less.
		{marked([]int{1, 1, 1, 1}, []int{1, 2, 1, 2}, []int{1, 1, 2, 2}, []int{2, 2, 1, 1}, []int{2, 1, 2, 1}), []int{0, 3}, api.OK},
		{marked([]int{1, 1, 1, 1}, []int{1, 2, 1, 1}, []int{1, 1, 2, 1}, []int{2, 1, 1, 1}, []int{1, 1, 1, 2}), []int{0, 1, 2, 3}, api.OK},
	} {
		if l, e := brand.Telltale(x.herd, 0); !slices.Equal(l, x.want) || e != x.e {
			t.Error(i, l, e)
		}
	}
	all := beasts(9)
	for i := range 8 {
		all[i+1].Marks = []api.Mark{mark(i, 1)}
	}
	if l, e := brand.Telltale(all, 0); !slices.Equal(l, []int{0, 1, 2, 3, 4, 5, 6, 7}) || e != api.OK {
		t.Error(l, e)
	}
}

// P2.4.
func TestLineAndKin(t *testing.T) {
	l := []api.Animal{
		beast(10, 20, span(0, 0)), beast(20, 30, span(0, 0)), beast(30, -1, span(0, 0)), beast(40, 30, span(0, 0)),
		beast(50, 40, span(0, 0)), beast(60, -1, span(0, 0)), beast(0, 60, span(0, 0)),
	}
	for id, want := range map[int][]int{10: {20, 30}, 20: {30}, 30: nil, 50: {40, 30}, 0: {60}, 60: nil} {
		if line, e := brand.Line(l, id); !slices.Equal(line, want) || e != api.OK {
			t.Error(id, line, e)
		}
	}
	long := beasts(16)
	for i := range 15 {
		long[i].Mother = i + 1
	}
	if line, e := brand.Line(long, 0); !slices.Equal(line, []int{1, 2, 3, 4, 5, 6, 7, 8, 9, 10, 11, 12, 13, 14, 15}) || e != api.OK {
		t.Error(line, e)
	}
	for i, x := range []struct {
		a, b, up, down int
		e              api.Errno
	}{
		{10, 10, 0, 0, api.OK},
		{30, 30, 0, 0, api.OK},
		{10, 20, 1, 0, api.OK},
		{20, 10, 0, 1, api.OK},
		{10, 30, 2, 0, api.OK},
		{20, 40, 1, 1, api.OK},
		{10, 40, 2, 1, api.OK},
		{40, 10, 1, 2, api.OK},
		{10, 50, 2, 2, api.OK},
		{0, 60, 1, 0, api.OK},
		{10, 0, 0, 0, api.ErrNone},
		{30, 60, 0, 0, api.ErrNone},
	} {
		if up, down, e := brand.Kin(l, x.a, x.b); up != x.up || down != x.down || e != x.e {
			t.Error(i, up, down, e)
		}
	}
	if up, down, e := brand.Kin(long, 15, 0); up != 0 || down != 15 || e != api.OK {
		t.Error(up, down, e)
	}
	// No animal has the Id -1, also if one's mother is not known.
	for _, id := range []int{-1, 1, 70, 10000, math.MinInt, math.MaxInt} {
		line, e := brand.Line(l, id)
		spots, f := brand.Telltale(l, id)
		up, down, g := brand.Kin(l, id, 10)
		up2, down2, h := brand.Kin(l, 10, id)
		if e != api.ErrArg || f != api.ErrArg || g != api.ErrArg || h != api.ErrArg || len(line)+len(spots)+up+down+up2+down2 != 0 {
			t.Error(id, e, f, g, h)
		}
	}
}
