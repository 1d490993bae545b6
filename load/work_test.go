package load_test

import (
	"slices"
	"testing"

	"azalai/api"
	"azalai/load"
)

func jolt(tie, hurt int) api.Jolt { return api.Jolt{Tie: tie, Hurt: hurt} }

// wearOf are the Hurt and the Days of packs.
func wearOf(packs []api.Pack) [][2]int {
	var l [][2]int
	for _, p := range packs {
		l = append(l, [2]int{p.Hurt, p.Days})
	}
	return l
}

// P5.2: who is hurt, and how much; days go by for all; all else stays.
func TestJolted(t *testing.T) {
	packs := []api.Pack{chapterSlab(5), bale(span(1, 2)), chapterSkin(7), chapterSlab(99), bale(exactly(0)), with(chapterSkin(0), func(p *api.Pack) { p.Hurt = 30 })}
	ties := []api.Tied{on(list(0, 2), list(1), list(4)), {}, on(nil, list(3), nil)}
	for i, x := range []struct {
		jolts []api.Jolt
		days  int
		want  [][2]int
	}{
		{nil, 0, [][2]int{{5, 0}, {0, 0}, {0, 7}, {99, 0}, {0, 0}, {30, 0}}},
		{nil, 3, [][2]int{{5, 3}, {0, 3}, {0, 10}, {99, 3}, {0, 3}, {30, 3}}},
		{[]api.Jolt{jolt(0, 10)}, 0, [][2]int{{15, 0}, {10, 0}, {10, 7}, {99, 0}, {20, 0}, {30, 0}}},
		{[]api.Jolt{jolt(2, 1)}, 1, [][2]int{{5, 1}, {0, 1}, {0, 8}, {100, 1}, {0, 1}, {30, 1}}},
		{[]api.Jolt{jolt(1, 100000)}, 0, [][2]int{{5, 0}, {0, 0}, {0, 7}, {99, 0}, {0, 0}, {30, 0}}},
		{[]api.Jolt{jolt(0, 100000), jolt(2, 0), jolt(0, 1), jolt(2, 4)}, 2, [][2]int{{100006, 2}, {100001, 2}, {100001, 9}, {103, 2}, {200002, 2}, {30, 2}}},
	} {
		next, e := load.Jolted(packs, ties, x.jolts, x.days)
		if !slices.Equal(wearOf(next), x.want) || e != api.OK {
			t.Error(i, wearOf(next), e)
		}
		for j := range next {
			next[j].Hurt, next[j].Days = packs[j].Hurt, packs[j].Days
		}
		if !slices.Equal(next, packs) {
			t.Error(i, "more is changed", next)
		}
	}
	if next, e := load.Jolted(nil, nil, nil, 100000); len(next) != 0 || e != api.OK {
		t.Error(next, e)
	}
}

// P5.2: days, jolts, and what becomes too much for a pack.
func TestJoltedErrors(t *testing.T) {
	packs := []api.Pack{chapterSlab(0), bale(exactly(1)), chapterSkin(0), bale(exactly(1))}
	ties := []api.Tied{on(list(0), list(1), list(2)), {}}
	want := func(packs []api.Pack, jolts []api.Jolt, days int, want api.Errno) {
		t.Helper()
		if next, e := load.Jolted(packs, ties, jolts, days); e != want || e != api.OK && len(next) != 0 {
			t.Error(jolts, days, next, e, "want", want)
		}
	}
	for n, valid := range around(0, 100000) {
		want(packs, nil, n, due(valid, api.ErrArg))
		want(packs, []api.Jolt{jolt(1, n)}, 0, due(valid, api.ErrJolts))
		want(packs, []api.Jolt{jolt(1, 0), jolt(1, n)}, 0, due(valid, api.ErrJolts))
	}
	for n, valid := range around(0, 1) {
		want(packs, []api.Jolt{jolt(n, 1)}, 0, due(valid, api.ErrJolts))
	}
	want(packs, make([]api.Jolt, 60), 0, api.OK)
	want(packs, make([]api.Jolt, 61), 0, api.ErrMany)
	if _, e := load.Jolted(packs, nil, []api.Jolt{jolt(0, 0)}, 0); e != api.ErrJolts {
		t.Error(e)
	}

	// The most that a pack can be hurt: 60 times on a side, 30 times on top.
	hard := slices.Repeat([]api.Jolt{jolt(0, 100000)}, 60)
	want(packs, hard[:30], 0, api.OK)
	want(packs, hard[:31], 0, api.ErrFull)
	low := []api.Tied{on(list(0), list(1), nil)}
	next, e := load.Jolted(packs, low, hard, 0)
	if !slices.Equal(wearOf(next), [][2]int{{6000000, 0}, {6000000, 0}, {0, 0}, {0, 0}}) || e != api.OK {
		t.Error(wearOf(next), e)
	}
	if _, e := load.Jolted(next, low, []api.Jolt{jolt(0, 0)}, 0); e != api.OK {
		t.Error(e)
	}
	if _, e := load.Jolted(next, low, []api.Jolt{jolt(0, 1)}, 0); e != api.ErrFull {
		t.Error(e)
	}
	if _, e := load.Jolted(next, []api.Tied{on(list(2), list(3), nil)}, []api.Jolt{jolt(0, 1)}, 0); e != api.OK {
		t.Error(e)
	}
	for i := range packs {
		old := slices.Clone(packs)
		old[i].Days = 99990
		want(old, nil, 10, api.OK)
		want(old, nil, 11, api.ErrFull)
		old[i].Days, old[i].Hurt = 100000, 6000000
		want(old, nil, 0, api.OK)
		want(old, nil, 1, api.ErrFull)
		want(old, []api.Jolt{jolt(0, 1)}, 0, due(i == 3, api.ErrFull))
	}
}

// P5.3: the sums of what is left.
func TestSides(t *testing.T) {
	packs := []api.Pack{chapterSlab(150), bale(span(10, 20)), chapterSkin(10), slab(exactly(999), exactly(1), exactly(1), 1), bale(exactly(5)), slab(exactly(999), exactly(1), exactly(1), 1)}
	for i, x := range []struct {
		t                api.Tied
		left, right, all api.Span
	}{
		{api.Tied{}, span(0, 0), span(0, 0), span(0, 0)},
		{on(list(0), list(2), nil), span(36000, 41000), span(24000, 25000), span(60000, 66000)},
		{on(list(0, 1), list(2, 4), nil), span(36010, 41020), span(24005, 25005), span(60015, 66025)},
		{on(list(1), nil, list(4)), span(10, 20), span(0, 0), span(15, 25)},
		{on(nil, list(1), list(0, 2)), span(0, 0), span(10, 20), span(60010, 66020)},
		{on(nil, nil, list(1)), span(0, 0), span(0, 0), span(10, 20)},
		// Each pack is rounded.
		{on(list(3, 5), nil, nil), span(1996, 1998), span(0, 0), span(1996, 1998)},
		{on(list(3), list(5), list(4)), span(998, 999), span(998, 999), span(2001, 2003)},
	} {
		left, right, all, e := load.Sides(packs, x.t)
		if left != x.left || right != x.right || all != x.all || e != api.OK {
			t.Error(i, left, right, all, e)
		}
	}
}

// P5.3: which differences there may be, on both sides and at the edges of the bound.
func TestBalance(t *testing.T) {
	for i, x := range []struct {
		left, right api.Span
		bound       int
		want        uint8
	}{
		{exactly(0), exactly(0), 0, 2}, {exactly(7), exactly(7), 0, 2}, {exactly(7), exactly(8), 0, 0}, {exactly(7), exactly(8), 1, 2},
		// From -10 to 20.
		{span(20, 40), span(20, 30), 20, 2}, {span(20, 40), span(20, 30), 19, 1}, {span(20, 40), span(20, 30), 0, 1},
		// From 5 to 15.
		{span(15, 20), span(5, 10), 15, 2}, {span(15, 20), span(5, 10), 14, 1}, {span(15, 20), span(5, 10), 5, 1}, {span(15, 20), span(5, 10), 4, 0}, {span(15, 20), span(5, 10), 0, 0},
		{span(0, 1), exactly(0), 0, 1}, {span(1, 2), exactly(0), 0, 0},
		{exactly(1000000), exactly(0), 999999, 0}, {exactly(1000000), exactly(0), 1000000, 2}, {span(0, 1000000), span(0, 1000000), 1000000000, 2},
	} {
		packs := []api.Pack{bale(x.left), bale(x.right), bale(span(0, 1000000))}
		for j, tied := range []api.Tied{on(list(0), list(1), nil), on(list(1), list(0), nil), on(list(0), list(1), list(2))} {
			if known, e := load.Balance(packs, tied, x.bound); known != x.want || e != api.OK {
				t.Error(i, j, known, e, "want", x.want)
			}
		}
	}
	// What is left counts, and only that of the load.
	packs := []api.Pack{chapterSlab(200), chapterSkin(10), bale(exactly(13000)), bale(exactly(1))}
	for i, x := range []struct {
		t     api.Tied
		bound int
		want  uint8
	}{
		// From 36,000 to 38,950, against 37,000 to 38,000.
		{on(list(0), list(1, 2), nil), 2000, 2}, {on(list(0), list(1, 2), nil), 1999, 1},
		// Against 24,000 to 25,000.
		{on(list(1), list(0), list(2)), 11000, 1}, {on(list(1), list(0), list(2)), 10999, 0}, {on(list(1), list(0), list(2)), 14949, 1}, {on(list(1), list(0), list(2)), 14950, 2},
		{api.Tied{}, 0, 2}, {on(nil, nil, from(0, 3)), 0, 2}, {on(list(3), nil, nil), 0, 0},
	} {
		if known, e := load.Balance(packs, x.t, x.bound); known != x.want || e != api.OK {
			t.Error(i, known, e, "want", x.want)
		}
	}
}

// P5.3 to P5.7: the range of the bound.
func TestBound(t *testing.T) {
	b, c := breed(), animal()
	for n, valid := range around(0, 1000000000) {
		want := due(valid, api.ErrArg)
		_, balance := load.Balance(nil, api.Tied{}, n)
		_, ready := load.Ready(b, c, nil, api.Tied{}, n)
		_, settle := load.Settle(nil, api.Tied{}, n)
		_, _, trade := load.Trade(nil, nil, nil, nil, n)
		_, _, stow := load.Stow(nil, nil, nil, n)
		if got := []api.Errno{balance, ready, settle, trade, stow}; !slices.Equal(got, slices.Repeat([]api.Errno{want}, 5)) {
			t.Error(n, got, "want", want)
		}
	}
}

// breed and animal carry from 120,000 to 200,000 (layer 1).

func breed() api.Breed {
	return api.Breed{
		Full: 100000, Fed: 50000, Rest: span(2000, 2500), Heat: exactly(100), Toil: span(200, 250), Burn: span(40, 50),
		Rub: span(100, 200), Milk: span(1000, 1500), Heal: 50, Strong: span(150000, 200000),
	}
}

func animal() api.Camel {
	return api.Camel{Water: span(60000, 70000), Fat: span(20000, 30000), Sore: span(0, 100)}
}

// P5.4: balance and weight together, at the edges of what the animal can carry.
func TestReady(t *testing.T) {
	for i, x := range []struct {
		left, right, top api.Span
		bound            int
		want             uint8
	}{
		{exactly(0), exactly(0), exactly(0), 0, 2},
		{exactly(60000), exactly(60000), exactly(0), 0, 2},
		{exactly(60000), exactly(60000), exactly(1), 0, 1},
		{exactly(60000), exactly(60000), span(0, 1), 0, 1},
		{exactly(100000), exactly(100000), exactly(0), 0, 1},
		{exactly(100000), exactly(100000), span(0, 5), 0, 1},
		{exactly(100000), exactly(100000), exactly(1), 0, 0},
		{exactly(0), exactly(0), exactly(120000), 0, 2},
		{exactly(0), exactly(0), span(120000, 120001), 0, 1},
		{exactly(0), exactly(0), exactly(200001), 0, 0},
		{exactly(50000), exactly(50010), exactly(0), 9, 0},
		{exactly(50000), exactly(50010), exactly(0), 10, 2},
		{exactly(50000), span(50000, 50010), exactly(0), 9, 1},
		// Not balanced for sure, and too heavy for sure, or both open.
		{exactly(50000), exactly(90000), exactly(0), 0, 0},
		{exactly(50000), span(50000, 90000), exactly(200000), 0, 0},
		{exactly(50000), span(50000, 90000), exactly(0), 0, 1},
		{span(50000, 60000), span(50000, 60000), exactly(0), 10000, 2},
		{span(50000, 60001), span(50000, 60000), exactly(0), 20000, 1},
		{span(100000, 200000), span(100000, 200000), exactly(0), 1000000000, 1},
		{span(100000, 200000), span(100001, 200000), exactly(0), 1000000000, 0},
	} {
		packs := []api.Pack{bale(x.top), bale(x.left), bale(exactly(1000000)), bale(x.right)}
		if known, e := load.Ready(breed(), animal(), packs, on(list(1), list(3), list(0)), x.bound); known != x.want || e != api.OK {
			t.Error(i, known, e, "want", x.want)
		}
	}
	// What is left counts.
	packs := []api.Pack{slab(exactly(200000), exactly(1), exactly(700), 1), skin(exactly(200000), exactly(1000), 140)}
	if known, e := load.Ready(breed(), animal(), packs, on(list(0), list(1), nil), 0); known != api.KnownYes || e != api.OK {
		t.Error(known, e)
	}
}

// P5.4: what is wrong with the animal.
func TestReadyErrors(t *testing.T) {
	for i, x := range []struct {
		b api.Breed
		c api.Camel
		e api.Errno
	}{
		{breed(), animal(), api.OK},
		{with(breed(), func(b *api.Breed) { b.Full = 0 }), animal(), api.ErrBreed},
		{with(breed(), func(b *api.Breed) { b.Strong.Hi = 1000001 }), api.Camel{Water: exactly(-1)}, api.ErrBreed},
		{breed(), with(animal(), func(c *api.Camel) { c.Water.Hi = 100001 }), api.ErrCamel},
		{breed(), with(animal(), func(c *api.Camel) { c.Sore = span(1, 0) }), api.ErrCamel},
	} {
		if known, e := load.Ready(x.b, x.c, bales(5), on(list(0), nil, nil), 5); e != x.e || e != api.OK && known != 0 {
			t.Error(i, known, e)
		}
	}
}

// P5.5: the fewest packs, of several lists the first one; from both sides; what is on top stays.
func TestSettle(t *testing.T) {
	for i, x := range []struct {
		packs []api.Pack
		t     api.Tied
		bound int
		want  []int
		e     api.Errno
	}{
		{nil, api.Tied{}, 0, nil, api.OK},
		{bales(5), api.Tied{}, 0, nil, api.OK},
		{bales(5), on(list(0), nil, nil), 5, nil, api.OK},
		{bales(5), on(list(0), nil, nil), 4, nil, api.ErrUneven},
		{bales(5), on(nil, nil, list(0)), 0, nil, api.OK},
		{bales(5, 5), on(list(0, 1), nil, nil), 0, list(0), api.OK},
		{bales(5, 5), on(nil, list(0, 1), nil), 0, list(0), api.OK},
		{bales(5, 5), on(list(0), nil, list(1)), 0, nil, api.ErrUneven},
		{bales(5, 5), on(list(1), list(0), nil), 0, nil, api.OK},
		// Fewer packs instead of those with less numbers.
		{bales(10, 20, 30, 60, 60), on(from(0, 4), nil, nil), 0, list(2, 3), api.OK},
		{bales(1, 1, 2, 4), on(from(0, 3), nil, nil), 0, list(3), api.OK},
		{bales(1, 2, 1, 2, 2), on(from(0, 4), nil, nil), 0, list(1, 3), api.OK},
		{bales(2, 1, 1, 2, 2), on(from(0, 4), nil, nil), 0, list(0, 3), api.OK},
		// 10 and 30 against 24.
		{bales(10, 30, 24), on(list(0, 1), list(2), nil), 3, nil, api.ErrUneven},
		{bales(10, 30, 24), on(list(0, 1), list(2), nil), 4, list(0), api.OK},
		{bales(10, 30, 24), on(list(0, 1), list(2), nil), 16, nil, api.OK},
		{bales(10, 30, 24), on(list(0, 1), list(2), nil), 15, list(0), api.OK},
		// 9 against 7, 3 and 1; 9 and 1 against 7 and 3, or the other way round.
		{bales(7, 9, 3, 1), on(list(0, 1), list(2, 3), nil), 2, list(0), api.OK},
		{bales(7, 9, 3, 1), on(list(0, 1), list(2, 3), nil), 0, list(0, 3), api.OK},
		{bales(9, 7, 3, 1), on(list(0, 1), list(2, 3), nil), 0, list(0, 2), api.OK},
		// An index in between is on top.
		{bales(4, 9, 4, 8), on(list(0, 2, 3), nil, list(1)), 0, list(3), api.OK},
		{bales(8, 9, 4, 4), on(list(0, 2), list(3), list(1)), 0, list(2), api.OK},
		// What is not known exactly has to balance in all truths.
		{[]api.Pack{bale(span(10, 12)), bale(span(10, 11))}, on(list(0, 1), nil, nil), 2, list(0), api.OK},
		{[]api.Pack{bale(span(10, 12)), bale(span(10, 11))}, on(list(0, 1), nil, nil), 1, nil, api.ErrUneven},
		{[]api.Pack{chapterSlab(200), chapterSkin(10), bale(exactly(13000))}, on(nil, from(0, 2), nil), 2000, list(0), api.OK},
		{[]api.Pack{chapterSlab(200), chapterSkin(10), bale(exactly(13000))}, on(nil, from(0, 2), nil), 1999, nil, api.ErrUneven},
		// Other packs do not matter.
		{append(bales(5, 5, 1), slices.Repeat(bales(1), 27)...), on(list(0, 1), nil, nil), 0, list(0), api.OK},
		// As many as there may be.
		{slices.Repeat(bales(1000000), 10), on(from(0, 9), nil, nil), 0, from(0, 4), api.OK},
		{slices.Repeat(bales(1000000), 10), on(from(5, 9), from(0, 4), nil), 0, nil, api.OK},
		{slices.Repeat(bales(1000000), 9), on(from(0, 8), nil, nil), 999999, nil, api.ErrUneven},
		{bales(1, 2, 4, 8, 16, 32, 64, 128, 256, 512), on(from(0, 9), nil, nil), 1, list(9), api.OK},
		{bales(1, 2, 4, 8, 16, 32, 64, 128, 256, 512), on(from(0, 8), list(9), nil), 0, nil, api.ErrUneven},
		{bales(1, 2, 4, 8, 16, 32, 64, 128, 256, 510), on(from(0, 4), from(5, 9), nil), 1, from(5, 8), api.OK},
	} {
		got, e := load.Settle(x.packs, x.t, x.bound)
		if !slices.Equal(got, x.want) || e != x.e {
			t.Error(i, got, e, "want", x.want, x.e)
		}
	}
}
