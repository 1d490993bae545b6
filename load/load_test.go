package load_test

import (
	"math"
	"slices"
	"testing"

	"azalai/api"
	"azalai/load"
)

func span(lo, hi int) api.Span { return api.Span{Lo: lo, Hi: hi} }

func exactly(n int) api.Span { return span(n, n) }

func slab(mass, hard, crumbs api.Span, hurt int) api.Pack {
	return api.Pack{Kind: 1, Mass: mass, Hard: hard, Crumbs: crumbs, Hurt: hurt}
}

func bale(mass api.Span) api.Pack { return api.Pack{Kind: 2, Mass: mass} }

func skin(mass, leak api.Span, days int) api.Pack {
	return api.Pack{Kind: 3, Mass: mass, Leak: leak, Days: days}
}

// bales are bales whose masses are known.
func bales(masses ...int) []api.Pack {
	var l []api.Pack
	for _, m := range masses {
		l = append(l, bale(exactly(m)))
	}
	return l
}

// list are indices.
func list(l ...int) []int { return l }

// on are packs on the left, on the right and on top.
func on(left, right, top []int) api.Tied { return api.Tied{Left: left, Right: right, Top: top} }

// from are the indices from one to another one.
func from(first, last int) []int {
	var l []int
	for i := first; i <= last; i++ {
		l = append(l, i)
	}
	return l
}

func put(pack, tie, place int) api.Put {
	return api.Put{Pack: pack, Tie: tie, Place: uint8(place)}
}

func with[T any](v T, change func(*T)) T {
	change(&v)
	return v
}

func equalTied(a, b api.Tied) bool {
	return slices.Equal(a.Left, b.Left) && slices.Equal(a.Right, b.Right) && slices.Equal(a.Top, b.Top)
}

func equalTies(a, b []api.Tied) bool { return slices.EqualFunc(a, b, equalTied) }

// due returns no error for what is valid, and a certain one for all else.
func due(valid bool, bad api.Errno) api.Errno {
	if valid {
		return api.OK
	}
	return bad
}

// around are numbers at the edges of a range, and far beyond them, with whether they are in it.
func around(least, most int) map[int]bool {
	return map[int]bool{
		least - 1: false, most + 1: false, least + 1<<40: false, least - 1<<40: false, 1 << 62: false, math.MinInt: false, math.MaxInt: false,
		least: true, most: true,
	}
}

// spansAround are spans at the edges of a range, with whether they are in it, and their ends in order.
func spansAround(least, most int) map[api.Span]bool {
	l := map[api.Span]bool{span(most+1, least): false, span(least, least-1): false}
	if least < most {
		l[span(most, least)], l[span(least+1, least)] = false, false
	}
	for n, valid := range around(least, most) {
		l[exactly(n)], l[span(min(n, least), max(n, most))] = valid, valid
	}
	return l
}

// The packs of the chapter's examples.

func chapterSlab(hurt int) api.Pack {
	return slab(span(40000, 41000), span(100, 200), span(50, 100), hurt)
}

func chapterSkin(days int) api.Pack { return skin(exactly(30000), span(500, 600), days) }

func chapterBales() []api.Pack { return bales(10, 20, 30, 45) }

func wantRest(t *testing.T, p api.Pack, left, lost api.Span, broken uint8) {
	t.Helper()
	if l, m, b, e := load.Rest(p); l != left || m != lost || b != broken || e != api.OK {
		t.Error(p, "Rest", l, m, b, e, "want", left, lost, broken)
	}
}

func TestExamples(t *testing.T) {
	wantRest(t, chapterSlab(99), span(40000, 41000), exactly(0), api.KnownNo)
	wantRest(t, chapterSlab(150), span(36000, 41000), span(0, 4100), api.KnownOpen)
	wantRest(t, chapterSlab(200), span(36000, 38950), span(2000, 4100), api.KnownYes)
	wantRest(t, chapterSkin(10), span(24000, 25000), span(5000, 6000), api.KnownNo)
	wantRest(t, chapterSkin(55), span(0, 2500), span(27500, 30000), api.KnownNo)
	for i, x := range []struct {
		right, bound int
		want         uint8
	}{{2, 0, api.KnownYes}, {3, 14, api.KnownNo}, {3, 15, api.KnownYes}} {
		if known, e := load.Balance(chapterBales(), on(list(0, 1), list(x.right), nil), x.bound); known != x.want || e != api.OK {
			t.Error("Balance", i, known, e)
		}
	}
	all := on(from(0, 3), nil, nil)
	if l, e := load.Settle(chapterBales(), all, 5); !slices.Equal(l, list(0, 3)) || e != api.OK {
		t.Error("Settle", l, e)
	}
	if l, e := load.Settle(chapterBales(), all, 4); len(l) != 0 || e != api.ErrUneven {
		t.Error("Settle", l, e)
	}
	next, moved, e := load.Trade(chapterBales(), []api.Tied{on(list(0, 1), list(2), nil)}, list(1), []api.Put{put(3, 0, 0)}, 5)
	if !equalTies(next, []api.Tied{on(list(3), list(0, 2), nil)}) || !slices.Equal(moved, list(0)) || e != api.OK {
		t.Error("Trade", next, moved, e)
	}
	ties, worth, e := load.Stow(chapterBales(), list(80), list(1, 2, 3, 4), 15)
	if !equalTies(ties, []api.Tied{on(list(2), list(3), nil)}) || worth != 7 || e != api.OK {
		t.Error("Stow", ties, worth, e)
	}
}

// wantPack checks whether a pack is valid, alone and behind others.
func wantPack(t *testing.T, p api.Pack, valid bool) {
	t.Helper()
	want := due(valid, api.ErrPacks)
	_, _, _, rest := load.Rest(p)
	alone, behind := load.Check([]api.Pack{p}, nil), load.Check(append(bales(1, 2), p), nil)
	if rest != want || alone != want || behind != want {
		t.Error(p, rest, alone, behind, "want", want)
	}
}

// P5.1: the ranges of the numbers of each kind of pack.
func TestCheckPack(t *testing.T) {
	numbers := func(p api.Pack, hard, crumbs, leak api.Span) {
		for s, valid := range spansAround(0, 1000000) {
			wantPack(t, with(p, func(p *api.Pack) { p.Mass = s }), valid)
		}
		for s, valid := range spansAround(hard.Lo, hard.Hi) {
			wantPack(t, with(p, func(p *api.Pack) { p.Hard = s }), valid)
		}
		for s, valid := range spansAround(crumbs.Lo, crumbs.Hi) {
			wantPack(t, with(p, func(p *api.Pack) { p.Crumbs = s }), valid)
		}
		for s, valid := range spansAround(leak.Lo, leak.Hi) {
			wantPack(t, with(p, func(p *api.Pack) { p.Leak = s }), valid)
		}
		for n, valid := range around(0, 6000000) {
			wantPack(t, with(p, func(p *api.Pack) { p.Hurt = n }), valid)
		}
		for n, valid := range around(0, 100000) {
			wantPack(t, with(p, func(p *api.Pack) { p.Days = n }), valid)
		}
	}
	none := exactly(0)
	numbers(chapterSlab(99), span(1, 100000), span(0, 1000), none)
	numbers(bale(span(7, 8)), none, none, none)
	numbers(chapterSkin(3), none, none, span(0, 1000000))
	for kind := range 256 {
		wantPack(t, api.Pack{Kind: uint8(kind)}, kind == 2 || kind == 3)
		for i, p := range []api.Pack{chapterSlab(99), skin(exactly(5), exactly(1), 2)} {
			wantPack(t, with(p, func(p *api.Pack) { p.Kind = uint8(kind) }), kind == []int{1, 3}[i])
		}
	}
}

// P5.1: how many packs there may be.
func TestCheckMany(t *testing.T) {
	for n, valid := range map[int]bool{0: true, 1: true, 29: true, 30: true, 31: false, 1000: false} {
		if e := load.Check(slices.Repeat(bales(5), n), nil); e != due(valid, api.ErrPacks) {
			t.Error(n, e)
		}
	}
	for bad := range 30 {
		packs := slices.Repeat(bales(5), 30)
		packs[bad].Mass.Lo = 6
		if e := load.Check(packs, nil); e != api.ErrPacks {
			t.Error(bad, e)
		}
	}
}

// turns are the three loads in which the packs of one are a place further.
func turns(t api.Tied) []api.Tied {
	return []api.Tied{t, on(t.Top, t.Left, t.Right), on(t.Right, t.Top, t.Left)}
}

// P5.1: which lists are a load, wherever they are.
func TestCheckTied(t *testing.T) {
	packs := slices.Repeat(bales(5), 12)
	for i, x := range []struct {
		t     api.Tied
		valid bool
	}{
		{api.Tied{}, true},
		{on(list(0), nil, nil), true},
		{on(list(11), nil, nil), true},
		{on(list(12), nil, nil), false},
		{on(list(-1), nil, nil), false},
		{on(list(0, 12), nil, nil), false},
		{on(list(math.MinInt), nil, nil), false},
		{on(list(math.MaxInt), nil, nil), false},
		{on(list(0, 5, 6), list(1, 11), list(2, 3, 4)), true},
		{on(list(5, 0), nil, nil), false},
		{on(list(1, 3, 2), nil, nil), false},
		{on(list(4, 4), nil, nil), false},
		{on(list(4), list(4), nil), false},
		{on(list(4, 7), list(5), list(3, 7)), false},
		{on(from(0, 9), nil, nil), true},
		{on(from(0, 10), nil, nil), false},
		{on(from(0, 3), from(4, 6), from(7, 9)), true},
		{on(from(0, 3), from(4, 6), from(7, 10)), false},
		{on(from(0, 4), from(5, 10), nil), false},
	} {
		for place, turned := range turns(x.t) {
			if e := load.Check(packs, []api.Tied{turned}); e != due(x.valid, api.ErrTies) {
				t.Error(i, place, e)
			}
			if _, _, _, e := load.Sides(packs, turned); e != due(x.valid, api.ErrTies) {
				t.Error(i, place, "Sides", e)
			}
		}
	}
	if e := load.Check(nil, []api.Tied{on(list(0), nil, nil)}); e != api.ErrTies {
		t.Error(e)
	}
}

// P5.1: how many loads there may be, and that no pack is in two of them.
func TestCheckTies(t *testing.T) {
	packs := slices.Repeat(bales(5), 30)
	for n, valid := range map[int]bool{0: true, 1: true, 7: true, 8: true, 9: false, 1000: false} {
		if e := load.Check(packs, make([]api.Tied, n)); e != due(valid, api.ErrTies) {
			t.Error(n, e)
		}
	}
	full := []api.Tied{on(from(0, 9), nil, nil), on(nil, from(10, 19), nil), on(nil, nil, from(20, 29))}
	if e := load.Check(packs, full); e != api.OK {
		t.Error(e)
	}
	if e := load.Check(packs[:29], full); e != api.ErrTies {
		t.Error(e)
	}
	for i, first := range turns(on(list(3), nil, nil)) {
		for j, second := range turns(on(list(2, 3), nil, nil)) {
			if e := load.Check(packs, []api.Tied{{}, first, {}, second}); e != api.ErrTies {
				t.Error(i, j, e)
			}
		}
	}
}

// P5.1: what is left, and lost, is rounded down and up; at the edges of what a pack may be; and whether it breaks.
func TestRest(t *testing.T) {
	most := exactly(1000000)
	for _, x := range []struct {
		p          api.Pack
		left, lost api.Span
		broken     uint8
	}{
		{bale(span(7, 9)), span(7, 9), exactly(0), 0},
		{with(bale(span(7, 9)), func(p *api.Pack) { p.Hurt, p.Days = 6000000, 100000 }), span(7, 9), exactly(0), 0},
		{bale(most), most, exactly(0), 0},
		{bale(exactly(0)), exactly(0), exactly(0), 0},

		{chapterSlab(100), span(36000, 41000), span(0, 4100), 1},
		{chapterSlab(199), span(36000, 41000), span(0, 4100), 1},
		{chapterSlab(0), span(40000, 41000), exactly(0), 0},
		{chapterSlab(6000000), span(36000, 38950), span(2000, 4100), 2},
		{with(chapterSlab(0), func(p *api.Pack) { p.Days = 100000 }), span(40000, 41000), exactly(0), 0},
		{slab(exactly(1000), exactly(100), exactly(10), 99), exactly(1000), exactly(0), 0},
		{slab(exactly(1000), exactly(100), exactly(10), 100), exactly(990), exactly(10), 2},
		{slab(exactly(999), exactly(1), exactly(1), 1), span(998, 999), span(0, 1), 2},
		{slab(exactly(1001), exactly(1), exactly(1), 1), span(999, 1000), span(1, 2), 2},
		{slab(exactly(1001), span(1, 2), exactly(1), 1), span(999, 1001), span(0, 2), 1},
		{slab(span(1001, 3003), exactly(1), span(1, 999), 1), span(1, 3000), span(1, 3000), 2},
		{slab(span(10, 20), exactly(1), span(333, 667), 1), span(3, 14), span(3, 14), 2},
		{slab(span(10, 20), exactly(1), exactly(1000), 1), exactly(0), span(10, 20), 2},
		{slab(span(10, 20), exactly(1), exactly(0), 1), span(10, 20), exactly(0), 2},
		{slab(span(10, 20), exactly(1), span(0, 1000), 1), span(0, 20), span(0, 20), 2},
		{slab(most, span(1, 100000), span(0, 1000), 99999), span(0, 1000000), span(0, 1000000), 1},
		{slab(most, span(1, 100000), span(999, 1000), 100000), span(0, 1000), span(999000, 1000000), 2},
		{slab(exactly(0), exactly(1), exactly(500), 1), exactly(0), exactly(0), 2},

		{chapterSkin(0), exactly(30000), exactly(0), 0},
		{chapterSkin(1), span(29400, 29500), span(500, 600), 0},
		{chapterSkin(50), span(0, 5000), span(25000, 30000), 0},
		{chapterSkin(60), exactly(0), exactly(30000), 0},
		{with(chapterSkin(1), func(p *api.Pack) { p.Hurt = 6000000 }), span(29400, 29500), span(500, 600), 0},
		{skin(span(100, 300), span(10, 20), 10), span(0, 200), span(100, 200), 0},
		{skin(span(100, 300), span(10, 20), 20), span(0, 100), span(100, 300), 0},
		{skin(span(100, 300), span(10, 20), 3), span(40, 270), span(30, 60), 0},
		{skin(span(0, 1000000), span(0, 1000000), 100000), span(0, 1000000), span(0, 1000000), 0},
		{skin(most, most, 100000), exactly(0), most, 0},
		{skin(most, exactly(0), 100000), most, exactly(0), 0},
	} {
		wantRest(t, x.p, x.left, x.lost, x.broken)
	}
}
