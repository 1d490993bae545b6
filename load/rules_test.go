package load_test

import (
	"math"
	"math/rand/v2"
	"slices"
	"testing"
	"time"

	"azalai/api"
	"azalai/load"
)

// The signatures of the chapter.
var (
	_ func([]api.Pack, []api.Tied) api.Errno                                                          = load.Check
	_ func(api.Pack) (left, lost api.Span, broken uint8, e api.Errno)                                 = load.Rest
	_ func([]api.Pack, []api.Tied, []api.Jolt, int) ([]api.Pack, api.Errno)                           = load.Jolted
	_ func([]api.Pack, api.Tied) (left, right, all api.Span, e api.Errno)                             = load.Sides
	_ func([]api.Pack, api.Tied, int) (uint8, api.Errno)                                              = load.Balance
	_ func(api.Breed, api.Camel, []api.Pack, api.Tied, int) (uint8, api.Errno)                        = load.Ready
	_ func([]api.Pack, api.Tied, int) ([]int, api.Errno)                                              = load.Settle
	_ func([]api.Pack, []api.Tied, []int, []api.Put, int) (next []api.Tied, moved []int, e api.Errno) = load.Trade
	_ func(packs []api.Pack, cans, worths []int, bound int) (ties []api.Tied, worth int, e api.Errno) = load.Stow
)

// call is all that the functions are called with.
type call struct {
	b            api.Breed
	c            api.Camel
	packs        []api.Pack
	ties         []api.Tied
	jolts        []api.Jolt
	days         int
	t            api.Tied
	bound        int
	off          []int
	on           []api.Put
	picks        []api.Pack
	cans, worths []int
}

// outcome is the error of a call, and whether all its other results are zero values.
type outcome struct {
	e    api.Errno
	zero bool
}

// outcomes calls each function: Rest with the first pack, and Stow with the picks.
func outcomes(c call) map[string]outcome {
	var first api.Pack
	if len(c.packs) > 0 {
		first = c.packs[0]
	}
	rest, lost, broken, a := load.Rest(first)
	jolted, b := load.Jolted(c.packs, c.ties, c.jolts, c.days)
	left, right, all, d := load.Sides(c.packs, c.t)
	balance, f := load.Balance(c.packs, c.t, c.bound)
	ready, g := load.Ready(c.b, c.c, c.packs, c.t, c.bound)
	settle, h := load.Settle(c.packs, c.t, c.bound)
	next, moved, i := load.Trade(c.packs, c.ties, c.off, c.on, c.bound)
	stow, worth, j := load.Stow(c.picks, c.cans, c.worths, c.bound)
	none := api.Span{}
	return map[string]outcome{
		"Check":   {load.Check(c.packs, c.ties), true},
		"Rest":    {a, rest == none && lost == none && broken == 0},
		"Jolted":  {b, len(jolted) == 0},
		"Sides":   {d, left == none && right == none && all == none},
		"Balance": {f, balance == 0},
		"Ready":   {g, ready == 0},
		"Settle":  {h, len(settle) == 0},
		"Trade":   {i, len(next) == 0 && len(moved) == 0},
		"Stow":    {j, len(stow) == 0 && worth == 0},
	}
}

// fair is a call in which nothing is wrong.
func fair() call {
	packs := []api.Pack{chapterSlab(150), bale(span(36000, 41000)), chapterSkin(10), bale(exactly(25000)), bale(exactly(5)), bale(exactly(5))}
	return call{
		b: breed(), c: animal(), packs: packs,
		ties:  []api.Tied{on(list(0), list(1), list(4)), on(list(2, 3), nil, nil)},
		jolts: []api.Jolt{jolt(0, 9), jolt(1, 3)}, days: 2,
		t: on(list(0, 4, 5), list(1), list(2)), bound: 5000,
		off: list(1, 3), on: []api.Put{put(5, 1, 2), put(3, 1, 1), put(1, 0, 1)},
		picks: packs[1:], cans: list(100000, 60000), worths: list(5, 4, 3, 2, 1),
	}
}

// R1, R2: of several errors the first one, with zero values.
func TestOrderOfErrors(t *testing.T) {
	badPack := bale(span(1, 0))
	all := []string{"Check", "Rest", "Jolted", "Sides", "Balance", "Ready", "Settle", "Trade", "Stow"}
	ok, arg, many, full, packs, ties := api.OK, api.ErrArg, api.ErrMany, api.ErrFull, api.ErrPacks, api.ErrTies
	uneven, jolts, puts, worths := api.ErrUneven, api.ErrJolts, api.ErrPuts, api.ErrWorths
	c := call{
		b: with(breed(), func(b *api.Breed) { b.Fed = 0 }), c: with(animal(), func(c *api.Camel) { c.Fat.Lo = -1 }),
		packs: slices.Repeat([]api.Pack{badPack}, 31), ties: slices.Repeat([]api.Tied{on(list(-1), nil, nil)}, 9),
		jolts: slices.Repeat([]api.Jolt{jolt(-1, -1)}, 61), days: -1, t: on(list(-1), nil, nil), bound: -1,
		off: list(-1), on: []api.Put{put(-1, -1, 3)},
		picks: slices.Repeat([]api.Pack{badPack}, 8), cans: list(-1, -1, -1), worths: list(-1),
	}
	// One after the other is put right.
	for i, x := range []struct {
		change func()
		want   []api.Errno // of all, in their order
	}{
		{func() {}, []api.Errno{packs, packs, packs, packs, packs, packs, packs, packs, packs}},
		{func() { c.packs, c.picks = slices.Repeat([]api.Pack{badPack}, 30), slices.Repeat(bales(1), 31) }, []api.Errno{packs, packs, packs, packs, packs, packs, packs, packs, packs}},
		{func() { c.packs, c.picks = slices.Repeat(bales(1000), 30), slices.Repeat(bales(1), 8) }, []api.Errno{ties, ok, ties, ties, ties, ties, ties, ties, many}},
		{func() { c.t, c.picks = on(list(0), list(0), nil), bales(1) }, []api.Errno{ties, ok, ties, ties, ties, ties, ties, ties, many}},
		{func() { c.ties, c.t, c.cans = make([]api.Tied, 9), on(nil, list(30), nil), list(-1, -1) }, []api.Errno{ties, ok, ties, ties, ties, ties, ties, ties, arg}},
		{func() { c.ties, c.t = []api.Tied{on(nil, from(0, 10), nil)}, on(nil, from(0, 10), nil) }, []api.Errno{ties, ok, ties, ties, ties, ties, ties, ties, arg}},
		{func() { c.ties, c.t = []api.Tied{on(list(0), nil, nil)}, on(list(0), nil, nil) }, []api.Errno{ok, ok, arg, ok, arg, api.ErrBreed, arg, arg, arg}},
		{func() { c.b, c.days = breed(), 100000 }, []api.Errno{ok, ok, many, ok, arg, api.ErrCamel, arg, arg, arg}},
		{func() { c.c, c.jolts = animal(), c.jolts[:60] }, []api.Errno{ok, ok, jolts, ok, arg, arg, arg, arg, arg}},
		{func() { c.bound, c.jolts = 999, []api.Jolt{jolt(0, 100001)} }, []api.Errno{ok, ok, jolts, ok, ok, ok, uneven, puts, arg}},
		{func() {
			c.jolts, c.off, c.cans = []api.Jolt{jolt(0, 100000)}, nil, list(0)
			c.packs[0].Hurt, c.packs[29].Days = 6000000, 100000
		}, []api.Errno{ok, ok, full, ok, ok, ok, uneven, puts, worths}},
		{func() { c.on, c.worths, c.jolts = nil, list(5, 5), nil }, []api.Errno{ok, ok, full, ok, ok, ok, uneven, uneven, worths}},
		{func() { c.bound, c.worths, c.days = 1000, list(5), 0 }, []api.Errno{ok, ok, ok, ok, ok, ok, ok, ok, ok}},
	} {
		x.change()
		got := outcomes(c)
		for j, name := range all {
			if got[name].e != x.want[j] || x.want[j] != api.OK && !got[name].zero {
				t.Error(i, name, got[name], "want", x.want[j])
			}
		}
	}
	// Too many on one animal is as wrong as a pack that cannot be put, and found before what cannot be balanced.
	heavy := on(from(0, 9), nil, nil)
	if _, _, e := load.Trade(c.packs, []api.Tied{on(list(29), nil, nil), heavy}, nil, []api.Put{put(10, 1, 0)}, 0); e != api.ErrPuts {
		t.Error(e)
	}
	// Each number of cans is looked at before a worth that is missing.
	if _, _, e := load.Stow(bales(1), list(0, 1000000001), nil, 0); e != api.ErrArg {
		t.Error(e)
	}
	// The bound is looked at before what the animals can carry, and before the worths.
	if _, _, e := load.Stow(bales(1), list(0), nil, 1000000001); e != api.ErrArg {
		t.Error(e)
	}
}

// edge returns a number that may be at an edge of a range, or far beyond it.
func edge(r *rand.Rand, least, most int) int {
	switch {
	case r.IntN(400) == 0:
		return []int{math.MinInt, -1 << 32, least - 1, most + 1, 1 << 32, 1 << 62, math.MaxInt}[r.IntN(7)]
	case r.IntN(10) == 0:
		return []int{least, most}[r.IntN(2)]
	}
	return least + r.IntN(most-least+1)
}

func edges(r *rand.Rand, least, most int) api.Span {
	a, b := edge(r, least, most), edge(r, least, most)
	if r.IntN(300) > 0 {
		a, b = min(a, b), max(a, b)
	}
	return span(a, b)
}

func anyPack(r *rand.Rand) api.Pack {
	p := api.Pack{Kind: uint8(1 + r.IntN(3)), Mass: edges(r, 0, 1000000), Hurt: edge(r, 0, 6000000), Days: edge(r, 0, 100000)}
	if r.IntN(3) > 0 {
		p.Hurt, p.Days = edge(r, 0, 200000), edge(r, 0, 20)
	}
	if r.IntN(300) == 0 {
		p.Kind = uint8(r.IntN(256))
	}
	switch p.Kind {
	case 1:
		p.Hard, p.Crumbs = edges(r, 1, 100000), edges(r, 0, 1000)
	case 3:
		p.Leak = edges(r, 0, 1000000)
	}
	return p
}

// anyTies returns loads for some packs, and the packs of none of them.
func anyTies(r *rand.Rand, packs, animals, tied int) ([]api.Tied, []int) {
	lists := make([][3][]int, animals)
	var free []int
	for i := range packs {
		tie := r.IntN(animals + 1)
		if tie == animals || len(slices.Concat(lists[tie][:]...)) >= tied {
			free = append(free, i)
			continue
		}
		place := r.IntN(3)
		lists[tie][place] = append(lists[tie][place], i)
	}
	var ties []api.Tied
	for _, l := range lists {
		ties = append(ties, on(l[0], l[1], l[2]))
	}
	return ties, free
}

// anyExchange returns packs to be taken away, and packs to be put.
func anyExchange(r *rand.Rand, ties []api.Tied, free []int) ([]int, []api.Put) {
	var off []int
	for _, t := range ties {
		for _, i := range slices.Concat(t.Left, t.Right, t.Top) {
			if r.IntN(4) == 0 {
				off = append(off, i)
			}
		}
	}
	slices.Sort(off)
	can := slices.Concat(off, free)
	r.Shuffle(len(can), func(i, j int) { can[i], can[j] = can[j], can[i] })
	var on []api.Put
	for _, i := range can[:r.IntN(len(can)+1)] {
		if len(ties) > 0 {
			on = append(on, put(i, r.IntN(len(ties)), r.IntN(3)))
		}
	}
	return off, on
}

// anyCall returns a call that is mostly valid, with numbers from all of their ranges.
func anyCall(r *rand.Rand) call {
	c := call{b: breed(), c: animal(), days: edge(r, 0, 100000), bound: edge(r, 0, 1000000)}
	c.c.Water = edges(r, 0, 100000)
	c.b.Strong = edges(r, 0, 1000000)
	if r.IntN(2) == 0 {
		c.days = 0
	}
	for range r.IntN(16) {
		c.packs = append(c.packs, anyPack(r))
	}
	if r.IntN(50) == 0 {
		c.packs = slices.Repeat(c.packs, 4)
	}
	var free []int
	c.ties, free = anyTies(r, len(c.packs), r.IntN(5), 10)
	if len(c.ties) > 0 {
		c.t = c.ties[0]
	}
	c.off, c.on = anyExchange(r, c.ties, free)
	for range r.IntN(4) {
		c.jolts = append(c.jolts, jolt(edge(r, 0, max(0, len(c.ties)-1)), edge(r, 0, 100000)))
	}
	if r.IntN(20) == 0 {
		c.jolts = slices.Repeat(c.jolts, 25)
	}
	c.picks = c.packs[:min(len(c.packs), r.IntN(6))]
	for range r.IntN(3) + r.IntN(20)/19 {
		c.cans = append(c.cans, edge(r, 0, 1000000000))
	}
	for range c.picks {
		c.worths = append(c.worths, edge(r, 0, 1000000000000))
	}
	spoilCall(r, &c)
	return c
}

// spoilCall makes one thing of a call wrong, or of no effect, now and then.
func spoilCall(r *rand.Rand, c *call) {
	any := func() int { return edge(r, -2, 40) }
	change := func(l []int) {
		if len(l) > 0 {
			l[r.IntN(len(l))] = any()
		}
	}
	switch r.IntN(40) {
	case 0:
		change(c.t.Left)
	case 1:
		change(c.t.Top)
	case 2:
		change(c.off)
	case 3:
		c.on = append(c.on, put(any(), any(), r.IntN(256)))
	case 4:
		c.t.Right = append(slices.Clone(c.t.Right), any())
	case 5:
		c.worths = append(c.worths, any())
	case 6:
		c.ties = slices.Repeat(c.ties, 4)
	case 7:
		c.b.Rub.Lo = any()
	case 8:
		c.c.Sore.Lo = any()
	}
}

// R5, R6, R7: any values lead to an end without a panic, and to zero values beside an error.
func TestAnyValue(t *testing.T) {
	r := rand.New(rand.NewPCG(5, 7))
	seen := map[api.Errno]int{}
	for range 20000 {
		c := anyCall(r)
		for name, got := range outcomes(c) {
			if got.e != api.OK && !got.zero {
				t.Fatal(name, c, got)
			}
			seen[got.e]++
		}
	}
	for _, e := range []api.Errno{api.OK, api.ErrArg, api.ErrMany, api.ErrFull, api.ErrBreed, api.ErrCamel, api.ErrPacks, api.ErrTies, api.ErrUneven, api.ErrJolts, api.ErrPuts, api.ErrWorths} {
		if seen[e] < 100 {
			t.Error(e, seen)
		}
	}
}

// R6: a pack counts as valid whoever made it, such as a slab that was hurt as no jolts can hurt it, and two that are one and the same.
func TestOddValues(t *testing.T) {
	odd := with(slab(exactly(1000), exactly(5), exactly(100), 5999999), func(p *api.Pack) { p.Days = 77 })
	packs := []api.Pack{odd, odd, {Kind: 3, Days: 100000}, {Kind: 2, Hurt: 1}}
	if e := load.Check(packs, []api.Tied{{}, on(list(1), list(0, 2, 3), nil), {}}); e != api.OK {
		t.Error(e)
	}
	if known, e := load.Balance(packs, on(list(1), list(0, 2, 3), nil), 0); known != api.KnownYes || e != api.OK {
		t.Error(known, e)
	}
}

// spare returns a list whose memory goes on behind its end.
func spare[T any](l []T, behind T) []T {
	return append(slices.Clone(l), slices.Repeat([]T{behind}, 20)...)[:len(l)]
}

// whole returns a copy of a list and of the memory behind its end that spare made.
func whole[T any](l []T) []T { return slices.Clone(l[:len(l)+20]) }

// spareTied is a load whose lists have memory behind their ends.
func spareTied(t api.Tied) api.Tied {
	return on(spare(t.Left, 77), spare(t.Right, 77), spare(t.Top, 77))
}

func wholeTied(t api.Tied) api.Tied { return on(whole(t.Left), whole(t.Right), whole(t.Top)) }

// spareCall is a fair call whose lists all have memory behind their ends.
func spareCall() call {
	c := fair()
	c.packs, c.picks = spare(c.packs, bale(exactly(77))), spare(c.picks, bale(exactly(77)))
	for i, t := range c.ties {
		c.ties[i] = spareTied(t)
	}
	c.ties = spare(c.ties, on(list(77), nil, nil))
	c.jolts, c.t = spare(c.jolts, jolt(7, 7)), spareTied(c.t)
	c.off, c.on = spare(c.off, 77), spare(c.on, put(7, 7, 7))
	c.cans, c.worths = spare(c.cans, 77), spare(c.worths, 77)
	return c
}

// same tells whether the lists of two calls are the same, with the memory behind their ends.
func same(a, b call) bool {
	eq := slices.EqualFunc(a.ties, b.ties, func(s, t api.Tied) bool { return equalTied(wholeTied(s), wholeTied(t)) })
	return eq && equalTies(whole(a.ties)[len(a.ties):], whole(b.ties)[len(b.ties):]) && equalTied(wholeTied(a.t), wholeTied(b.t)) &&
		slices.Equal(whole(a.packs), whole(b.packs)) && slices.Equal(whole(a.picks), whole(b.picks)) && slices.Equal(whole(a.jolts), whole(b.jolts)) &&
		slices.Equal(whole(a.off), whole(b.off)) && slices.Equal(whole(a.on), whole(b.on)) && slices.Equal(whole(a.cans), whole(b.cans)) && slices.Equal(whole(a.worths), whole(b.worths))
}

// R3: no argument is written to, nor what lies behind its end.
func TestArguments(t *testing.T) {
	c := spareCall()
	for name, got := range outcomes(c) {
		if got.e != api.OK || name != "Check" && got.zero {
			t.Error(name, got)
		}
	}
	if !same(c, spareCall()) {
		t.Error("an argument is written to", c)
	}
}

// spoil overwrites a list with all its memory.
func spoil[T any](l []T, with T) {
	l = l[:cap(l)]
	for i := range l {
		l[i] = with
	}
}

// lists are all lists of some loads.
func lists(ties []api.Tied) [][]int {
	var l [][]int
	for _, t := range ties {
		l = append(l, t.Left, t.Right, t.Top)
	}
	return l
}

// wantOwn checks that no list of loads, and no other one, has memory that another one has: all but one are overwritten.
func wantOwn(t *testing.T, name string, results func() [][]int) {
	t.Helper()
	want := results()
	for i := range want {
		got := results()
		for j := range got {
			if j != i {
				spoil(got[j], -7)
			}
		}
		if !slices.Equal(got[i], want[i]) {
			t.Error(name, i, got[i], want[i])
		}
	}
}

// R3: results share no memory with arguments or with each other, and no call remembers another one.
func TestResults(t *testing.T) {
	c := spareCall()
	wantOwn(t, "Trade", func() [][]int {
		next, moved, _ := load.Trade(c.packs, c.ties, c.off, c.on, c.bound)
		return append(lists(next), moved)
	})
	wantOwn(t, "Trade of nothing", func() [][]int {
		next, moved, _ := load.Trade(c.packs, c.ties, nil, nil, 1000000)
		return append(lists(next), moved)
	})
	wantOwn(t, "Stow", func() [][]int {
		ties, _, _ := load.Stow(c.picks, c.cans, c.worths, c.bound)
		return lists(ties)
	})
	for range 2 {
		settle, e := load.Settle(c.packs, c.t, c.bound)
		if !slices.Equal(settle, list(4)) || e != api.OK {
			t.Error(settle, e)
		}
		spoil(settle, -7)
		jolted, e := load.Jolted(c.packs, c.ties, nil, 0)
		if !slices.Equal(jolted, fair().packs) || e != api.OK {
			t.Error(jolted, e)
		}
		spoil(jolted, bale(exactly(77)))
		next, _, e := load.Trade(c.packs, c.ties, nil, nil, 1000000)
		if !equalTies(next, fair().ties) || e != api.OK {
			t.Error(next, e)
		}
		for _, l := range lists(next) {
			spoil(l, -7)
		}
		spoil(next, on(list(-7), nil, nil))
	}
	if !same(c, spareCall()) {
		t.Error("a result shares memory with an argument", c)
	}
}

// R4: no packs, no loads and nothing else.
func TestNilAndEmpty(t *testing.T) {
	empty := call{
		packs: []api.Pack{}, ties: []api.Tied{}, jolts: []api.Jolt{}, t: on(list(), list(), list()),
		off: []int{}, on: []api.Put{}, picks: []api.Pack{}, cans: []int{}, worths: []int{},
	}
	for _, c := range []call{{}, empty} {
		c.b, c.c = breed(), animal()
		for name, got := range outcomes(c) {
			if got.e != due(name != "Rest", api.ErrPacks) || got.zero != (name != "Balance" && name != "Ready") {
				t.Error(name, got)
			}
		}
	}
	next, moved, e := load.Trade(bales(5), []api.Tied{on(list(), list(0), list())}, []int{}, []api.Put{}, 5)
	if !equalTies(next, []api.Tied{on(nil, list(0), nil)}) || len(moved) != 0 || e != api.OK {
		t.Error(next, moved, e)
	}
}

// R7: as much as there may be, and much more, ends soon.
func TestMost(t *testing.T) {
	begun := time.Now()
	var masses []int
	for i := range 30 {
		masses = append(masses, 1000000-1<<(i%10))
	}
	packs := bales(masses...)
	ties := []api.Tied{on(from(0, 9), nil, nil), on(nil, from(10, 19), nil), on(from(20, 24), from(25, 29), nil)}
	// What is less than 1,000,000 is 1 to 512 in each load: 512, 8, 4, 2 and 1 against all others is 31 more.
	for bound, want := range map[int]api.Errno{0: api.ErrUneven, 30: api.ErrUneven, 31: api.OK} {
		_, moved, e := load.Trade(packs, ties, nil, nil, bound)
		if e != want || e == api.OK && !slices.Equal(moved, list(0, 1, 2, 3, 9, 10, 11, 12, 13, 19, 24, 29)) {
			t.Error(bound, moved, e)
		}
	}
	if stow, worth, e := load.Stow(packs[:7], list(1000000000, 1000000000), slices.Repeat(list(1), 7), 0); len(stow) != 2 || worth != 0 || e != api.OK {
		t.Error(stow, worth, e)
	}
	huge := make([]int, 1<<20)
	for i := range huge {
		huge[i] = i
	}
	c := call{
		b: breed(), c: animal(), packs: packs, ties: slices.Repeat([]api.Tied{{}}, 1<<20), t: on(huge, huge, huge), off: huge,
		on: make([]api.Put, 1<<20), jolts: make([]api.Jolt, 1<<20), picks: slices.Repeat(packs, 1<<15), cans: huge, worths: huge,
	}
	for name, got := range outcomes(c) {
		if (got.e == api.OK) != (name == "Rest") {
			t.Error(name, got)
		}
	}
	c.ties = ties
	for name, got := range outcomes(c) {
		if (got.e == api.OK) != (name == "Rest" || name == "Check") {
			t.Error(name, got)
		}
	}
	if took := time.Since(begun); took > 5*time.Second {
		t.Error(took)
	}
}
