package load_test

import (
	"math"
	"slices"
	"testing"

	"azalai/api"
	"azalai/load"
)

// P5.6: what is taken away, what is put, and what is moved then.
func TestTrade(t *testing.T) {
	// 0 1 against 2; 3 against 4, with 5 on top; an animal without a load; 6 to 9 are free.
	packs := bales(10, 20, 30, 40, 40, 5, 10, 20, 30, 7)
	ties := []api.Tied{on(list(0, 1), list(2), nil), on(list(3), list(4), list(5)), {}}
	for i, x := range []struct {
		off   []int
		on    []api.Put
		bound int
		next  []api.Tied
		moved []int
	}{
		{nil, nil, 0, ties, nil},
		// Taken away, with nothing to be moved.
		{list(3, 4), nil, 0, []api.Tied{ties[0], on(nil, nil, list(5)), {}}, nil},
		{list(5), nil, 0, []api.Tied{ties[0], on(list(3), list(4), nil), {}}, nil},
		{from(0, 5), nil, 0, []api.Tied{{}, {}, {}}, nil},
		// Put, in increasing order.
		{nil, []api.Put{put(8, 0, 0), put(7, 0, 1), put(6, 0, 1)}, 0, []api.Tied{on(list(0, 1, 8), list(2, 6, 7), nil), ties[1], {}}, nil},
		{nil, []api.Put{put(9, 1, 2), put(6, 1, 2)}, 0, []api.Tied{ties[0], on(list(3), list(4), list(5, 6, 9)), {}}, nil},
		{nil, []api.Put{put(9, 2, 2), put(6, 2, 2), put(7, 0, 2), put(8, 1, 2)}, 0, []api.Tied{on(list(0, 1), list(2), list(7)), on(list(3), list(4), list(5, 8)), on(nil, nil, list(6, 9))}, nil},
		// From load to load, from a side to the top and back, to the other side, and to where it was.
		{list(3, 4), []api.Put{put(4, 2, 0), put(3, 2, 1)}, 0, []api.Tied{ties[0], on(nil, nil, list(5)), on(list(4), list(3), nil)}, nil},
		{list(3, 4), []api.Put{put(3, 1, 2)}, 0, []api.Tied{ties[0], on(nil, nil, list(3, 5)), {}}, nil},
		{list(5), []api.Put{put(5, 1, 0)}, 5, []api.Tied{ties[0], on(list(3, 5), list(4), nil), {}}, nil},
		{list(3, 4), []api.Put{put(3, 1, 1), put(4, 1, 0)}, 0, []api.Tied{ties[0], on(list(4), list(3), list(5)), {}}, nil},
		{list(3, 4, 5), []api.Put{put(5, 1, 2), put(3, 1, 0), put(4, 1, 1)}, 0, ties, nil},
		// Then as few packs as can be are moved: 10 and 30 against 30 and 10.
		{list(1), []api.Put{put(6, 0, 1), put(8, 0, 1)}, 0, []api.Tied{on(list(0, 2), list(6, 8), nil), ties[1], {}}, list(2)},
		{nil, []api.Put{put(6, 1, 0), put(7, 1, 0), put(8, 1, 0)}, 0, []api.Tied{ties[0], on(list(3, 6, 7), list(4, 8), list(5)), {}}, list(8)},
		{nil, []api.Put{put(7, 2, 0), put(8, 2, 0)}, 10, []api.Tied{ties[0], ties[1], on(list(8), list(7), nil)}, list(7)},
		{nil, []api.Put{put(7, 2, 1), put(8, 2, 1)}, 10, []api.Tied{ties[0], ties[1], on(list(7), list(8), nil)}, list(7)},
		{nil, []api.Put{put(9, 2, 0)}, 7, []api.Tied{ties[0], ties[1], on(list(9), nil, nil)}, nil},
		// What is on top stays there, and does not count.
		{list(1), []api.Put{put(8, 0, 2), put(7, 0, 1)}, 10, []api.Tied{on(list(0, 7), list(2), list(8)), ties[1], {}}, list(7)},
		// Of several loads, all packs in increasing order.
		{list(0, 1, 2), []api.Put{put(2, 1, 1), put(0, 1, 1), put(1, 1, 1), put(7, 2, 0), put(8, 2, 0)}, 20, []api.Tied{{}, on(list(1, 3), list(0, 2, 4), list(5)), on(list(8), list(7), nil)}, list(1, 7)},
		{list(3, 4), []api.Put{put(6, 1, 0), put(9, 1, 0), put(3, 2, 1), put(4, 2, 1)}, 3, []api.Tied{ties[0], on(list(9), list(6), list(5)), on(list(3), list(4), nil)}, list(3, 6)},
	} {
		next, moved, e := load.Trade(packs, ties, x.off, x.on, x.bound)
		if !equalTies(next, x.next) || !slices.Equal(moved, x.moved) || e != api.OK {
			t.Error(i, next, moved, e, "want", x.next, x.moved)
		}
	}
}

// P5.6: loads that nothing is taken from, nor put on, are balanced, too.
func TestTradeUntouched(t *testing.T) {
	packs := bales(10, 20, 10, 20, 5)
	ties := []api.Tied{on(nil, list(2, 3), nil), {}, on(list(0, 1), nil, nil)}
	next, moved, e := load.Trade(packs, ties, nil, nil, 10)
	if !equalTies(next, []api.Tied{on(list(2), list(3), nil), {}, on(list(1), list(0), nil)}) || !slices.Equal(moved, list(0, 2)) || e != api.OK {
		t.Error(next, moved, e)
	}
	for i, x := range []struct {
		ties []api.Tied
		off  []int
		on   []api.Put
		e    api.Errno
	}{
		{ties, nil, nil, api.ErrUneven},
		{ties[:1], nil, nil, api.ErrUneven},
		{ties[:1], list(2, 3), nil, api.OK},
		{ties[1:], nil, nil, api.ErrUneven},
		{ties[1:], list(0, 1), nil, api.OK},
		{ties[1:2], nil, nil, api.OK},
		{ties[1:2], nil, []api.Put{put(0, 0, 1)}, api.ErrUneven},
		{ties[1:2], nil, []api.Put{put(0, 0, 1), put(2, 0, 1)}, api.OK},
	} {
		next, moved, e := load.Trade(packs, x.ties, x.off, x.on, 9)
		if e != x.e || e == api.OK && len(next) != len(x.ties) || e != api.OK && len(next)+len(moved) != 0 {
			t.Error(i, next, moved, e, "want", x.e)
		}
	}
}

// P5.6: which packs may be taken away, and put.
func TestTradePuts(t *testing.T) {
	packs := slices.Repeat(bales(0), 14)
	ties := []api.Tied{on(list(0, 1, 2), list(3, 4), list(5, 6, 7)), on(list(11), nil, list(9))}
	for i, x := range []struct {
		off   []int
		on    []api.Put
		valid bool
	}{
		{list(), []api.Put{}, true},
		{list(0, 3, 5, 9, 11), nil, true},
		{list(3, 0), nil, false},
		{list(0, 0), nil, false},
		{list(0, 3, 2), nil, false},
		{list(8), nil, false},
		{list(0, 8), nil, false},
		{list(10), nil, false},
		{list(13), nil, false},
		{list(14), nil, false},
		{list(-1), nil, false},
		{list(-1, 0), nil, false},
		{list(0, math.MaxInt), nil, false},
		{list(math.MinInt, 0), nil, false},

		{nil, []api.Put{put(8, 0, 0)}, true},
		{nil, []api.Put{put(13, 1, 2)}, true},
		{nil, []api.Put{put(14, 1, 2)}, false},
		{nil, []api.Put{put(-1, 1, 2)}, false},
		{nil, []api.Put{put(math.MaxInt, 1, 2)}, false},
		{nil, []api.Put{put(math.MinInt, 1, 2)}, false},
		{nil, []api.Put{put(0, 1, 0)}, false},
		{nil, []api.Put{put(9, 1, 2)}, false},
		{list(0), []api.Put{put(1, 1, 0)}, false},
		{list(0), []api.Put{put(0, 1, 0)}, true},
		{list(0), []api.Put{put(0, 1, 0), put(0, 1, 0)}, false},
		{list(0), []api.Put{put(0, 1, 0), put(8, 1, 0), put(0, 0, 0)}, false},
		{nil, []api.Put{put(8, 0, 0), put(8, 1, 1)}, false},
		{nil, []api.Put{put(8, 0, 0), put(10, 0, 0)}, true},
		{nil, []api.Put{put(8, 2, 0)}, false},
		{nil, []api.Put{put(8, -1, 0)}, false},
		{nil, []api.Put{put(8, math.MaxInt, 0)}, false},
		{nil, []api.Put{put(8, math.MinInt, 0)}, false},
		{nil, []api.Put{put(8, 0, 1)}, true},
		{nil, []api.Put{put(8, 0, 2)}, true},
		{nil, []api.Put{put(8, 0, 3)}, false},
		{nil, []api.Put{put(8, 0, 255)}, false},

		// At most ten packs on one animal, on all places together.
		{nil, []api.Put{put(8, 0, 0), put(10, 0, 1)}, true},
		{nil, []api.Put{put(8, 0, 0), put(10, 0, 1), put(12, 0, 2)}, false},
		{nil, []api.Put{put(8, 0, 0), put(10, 0, 1), put(12, 1, 2)}, true},
		{list(0), []api.Put{put(8, 0, 0), put(10, 0, 1), put(12, 0, 2)}, true},
		{list(0), []api.Put{put(8, 0, 0), put(10, 0, 1), put(12, 0, 2), put(0, 0, 2)}, false},
		{list(0), []api.Put{put(8, 0, 0), put(10, 0, 1), put(12, 0, 2), put(0, 1, 2)}, true},
		{list(0, 1), []api.Put{put(0, 0, 0), put(1, 0, 1), put(8, 0, 2), put(10, 0, 2)}, true},
		{list(0, 1), []api.Put{put(0, 0, 0), put(1, 0, 1), put(8, 0, 2), put(10, 0, 2), put(13, 0, 2)}, false},
		{from(0, 7), []api.Put{put(0, 1, 0), put(1, 1, 0), put(2, 1, 0), put(3, 1, 0), put(4, 1, 0), put(5, 1, 0), put(6, 1, 0), put(7, 1, 0)}, true},
		{from(0, 7), []api.Put{put(0, 1, 0), put(1, 1, 0), put(2, 1, 0), put(3, 1, 0), put(4, 1, 0), put(5, 1, 0), put(6, 1, 0), put(7, 1, 0), put(8, 1, 0)}, false},
	} {
		next, moved, e := load.Trade(packs, ties, x.off, x.on, 0)
		if e != due(x.valid, api.ErrPuts) || len(moved) != 0 || x.valid && load.Check(packs, next) != api.OK || !x.valid && len(next) != 0 {
			t.Error(i, next, moved, e, "want", x.valid)
		}
	}
	if _, _, e := load.Trade(packs, nil, nil, []api.Put{put(0, 0, 0)}, 0); e != api.ErrPuts {
		t.Error(e)
	}
	if _, _, e := load.Trade(nil, make([]api.Tied, 8), nil, []api.Put{put(0, 0, 0)}, 0); e != api.ErrPuts {
		t.Error(e)
	}
	if next, _, e := load.Trade(nil, make([]api.Tied, 8), nil, nil, 0); !equalTies(next, make([]api.Tied, 8)) || e != api.OK {
		t.Error(next, e)
	}
}

// P5.7: the ways that are worth most, and of several the first one.
func TestStow(t *testing.T) {
	none := api.Tied{}
	for i, x := range []struct {
		packs        []api.Pack
		cans, worths []int
		bound        int
		want         []api.Tied
		worth        int
	}{
		{nil, nil, nil, 0, nil, 0},
		{nil, list(5, 5), nil, 0, []api.Tied{none, none}, 0},
		{bales(5), nil, list(9), 5, nil, 0},
		{bales(5), list(5), list(9), 5, []api.Tied{on(list(0), nil, nil)}, 9},
		{bales(5), list(5), list(9), 4, []api.Tied{none}, 0},
		{bales(5), list(4), list(9), 5, []api.Tied{none}, 0},
		{bales(0), list(0), list(9), 0, []api.Tied{on(list(0), nil, nil)}, 9},
		{bales(5, 5), list(9), list(9, 9), 0, []api.Tied{none}, 0},
		{bales(5, 5), list(10), list(9, 9), 0, []api.Tied{on(list(0), list(1), nil)}, 18},
		{bales(5, 5, 5), list(10), list(9, 9, 9), 0, []api.Tied{on(list(1), list(2), nil)}, 18},
		{bales(5, 5, 5), list(10), list(9, 8, 9), 0, []api.Tied{on(list(0), list(2), nil)}, 18},
		{bales(5, 5, 5), list(15), list(1, 1, 1), 5, []api.Tied{on(list(0, 1), list(2), nil)}, 3},
		// What is worth nothing is tied only if it is of use.
		{bales(5, 5), list(10), list(0, 0), 0, []api.Tied{none}, 0},
		{bales(5, 5), list(10), list(0, 1), 0, []api.Tied{on(list(0), list(1), nil)}, 1},
		{bales(5, 5), list(10), list(0, 1), 5, []api.Tied{on(list(1), nil, nil)}, 1},
		{bales(5, 5, 5), list(20), list(0, 1, 0), 0, []api.Tied{on(list(1), list(2), nil)}, 1},
		// Two animals, the first one first; what only one of them can carry.
		{bales(5), list(5, 5), list(9), 5, []api.Tied{on(list(0), nil, nil), none}, 9},
		{bales(5), list(4, 5), list(9), 5, []api.Tied{none, on(list(0), nil, nil)}, 9},
		{bales(5, 5), list(5, 5), list(9, 9), 5, []api.Tied{on(list(0), nil, nil), on(list(1), nil, nil)}, 18},
		{bales(5, 5), list(10, 10), list(9, 9), 5, []api.Tied{on(list(0), list(1), nil), none}, 18},
		{bales(5, 5), list(10, 10), list(9, 9), 10, []api.Tied{on(list(0, 1), nil, nil), none}, 18},
		{bales(5, 7, 5, 7), list(24, 24), list(1, 1, 1, 1), 0, []api.Tied{on(list(0, 1), list(2, 3), nil), none}, 4},
		{bales(5, 7, 5, 7), list(10, 14), list(1, 1, 1, 1), 0, []api.Tied{on(list(0), list(2), nil), on(list(1), list(3), nil)}, 4},
		{bales(5, 7, 5, 7), list(14, 10), list(1, 1, 1, 1), 0, []api.Tied{on(list(1), list(3), nil), on(list(0), list(2), nil)}, 4},
		{bales(5, 7, 5, 7), list(13, 10), list(1, 1, 1, 1), 0, []api.Tied{on(list(0), list(2), nil), none}, 2},
		{bales(1, 2, 4, 8, 16, 32, 63), list(126, 0), list(1, 1, 1, 1, 1, 1, 1), 0, []api.Tied{on(from(0, 5), list(6), nil), none}, 7},
		{bales(1, 2, 4, 8, 16, 32, 63), list(125, 1000000000), list(1, 1, 1, 1, 1, 1, 1), 0, []api.Tied{none, on(from(0, 5), list(6), nil)}, 7},
		// Worth more, not more packs, and not lighter.
		{bales(10, 10, 1, 1, 1, 1), list(20), list(5, 5, 2, 2, 2, 2), 0, []api.Tied{on(list(0), list(1), nil)}, 10},
		{bales(10, 10, 1, 1, 1, 1), list(20), list(4, 4, 2, 3, 2, 2), 0, []api.Tied{on(list(2, 3), list(4, 5), nil)}, 9},
		{bales(1000000), list(1000000000), list(1000000000000), 1000000000, []api.Tied{on(list(0), nil, nil)}, 1000000000000},
		{slices.Repeat(bales(1000000), 7), list(0, 1000000000), slices.Repeat(list(1000000000000), 7), 1000000000, []api.Tied{none, on(from(0, 6), nil, nil)}, 7000000000000},
		// For sure: by the greatest difference, and the greatest mass that is left.
		{[]api.Pack{bale(span(10, 12)), bale(span(10, 11))}, list(23), list(1, 1), 2, []api.Tied{on(list(0), list(1), nil)}, 2},
		{[]api.Pack{bale(span(10, 12)), bale(span(10, 11))}, list(22), list(1, 1), 2, []api.Tied{none}, 0},
		{[]api.Pack{bale(span(10, 12)), bale(span(10, 11))}, list(23), list(1, 1), 1, []api.Tied{none}, 0},
		{[]api.Pack{chapterSlab(200), chapterSkin(10), bale(exactly(13000))}, list(76950), list(3, 2, 1), 2000, []api.Tied{on(list(0), list(1, 2), nil)}, 6},
		{[]api.Pack{chapterSlab(200), chapterSkin(10), bale(exactly(13000))}, list(76949), list(3, 2, 1), 2000, []api.Tied{none}, 0},
		{[]api.Pack{chapterSlab(200), chapterSkin(10), bale(exactly(13000))}, list(76950), list(3, 2, 1), 1999, []api.Tied{none}, 0},
	} {
		ties, worth, e := load.Stow(x.packs, x.cans, x.worths, x.bound)
		if !equalTies(ties, x.want) || worth != x.worth || e != api.OK {
			t.Error(i, ties, worth, e, "want", x.want, x.worth)
		}
	}
}

// P5.7: how many packs and animals there may be, what they can carry, and what packs are worth.
func TestStowErrors(t *testing.T) {
	want := func(packs, cans, worths []int, want api.Errno) {
		t.Helper()
		if ties, worth, e := load.Stow(bales(packs...), cans, worths, 0); e != want || e != api.OK && (len(ties) != 0 || worth != 0) {
			t.Error(packs, cans, worths, ties, worth, e, "want", want)
		}
	}
	for n, valid := range map[int]bool{0: true, 1: true, 6: true, 7: true, 8: false, 30: false} {
		want(make([]int, n), list(0), make([]int, n), due(valid, api.ErrMany))
	}
	for n, valid := range map[int]bool{0: true, 1: true, 2: true, 3: false, 1000: false} {
		want(nil, make([]int, n), nil, due(valid, api.ErrMany))
	}
	want(make([]int, 31), list(0), nil, api.ErrPacks)
	for n, valid := range around(0, 1000000000) {
		want(nil, list(n), nil, due(valid, api.ErrArg))
		want(nil, list(0, n), nil, due(valid, api.ErrArg))
	}
	for n, valid := range around(0, 1000000000000) {
		want(list(1), list(1), list(n), due(valid, api.ErrWorths))
		want(list(1, 1), nil, list(0, n), due(valid, api.ErrWorths))
	}
	for n := range 5 {
		want(list(1, 1), list(1), make([]int, n), due(n == 2, api.ErrWorths))
	}
}
