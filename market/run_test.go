package market_test

import (
	"math"
	"testing"

	"azalai/api"
	"azalai/market"
)

// wantStocks checks whether stocks are valid.
func wantStocks(t *testing.T, l []int, valid bool) {
	t.Helper()
	_, _, _, run := market.Run(nil, []api.Fair{fair(1, 1)}, l, nil)
	_, bound := market.Bound(nil, []api.Fair{fair(1, 1)}, l, 0, [][]int{{1, 0, 0, 0, 0}})
	if want := due(valid, api.ErrArg); run != want || bound != want {
		t.Error(l, run, bound, "want", want)
	}
}

// P6.2, P6.4: stocks are a number for each good.
func TestStocks(t *testing.T) {
	for good := range 5 {
		for n, valid := range around(0, 1000000) {
			wantStocks(t, stocks(good, n), valid)
		}
	}
	for n := range 12 {
		wantStocks(t, make([]int, n), n == 5)
	}
	wantStocks(t, nil, false)
}

// P6.2: what is given is exactly known, and of what is got there are from the least to the greatest number, each barter after the one before.
func TestBarters(t *testing.T) {
	offers := []api.Offer{offer(0, 3, 1, span(2, 5)), offer(1, 4, 2, span(1, 1)), offer(2, 1, 0, span(10, 20))}
	one := []api.Fair{fair(1, 1)}
	from := list(10, 1, 0, 7, 1000000)
	for _, x := range []struct {
		l    []api.Barter
		held []api.Span
	}{
		{nil, []api.Span{exactly(10), exactly(1), {}, exactly(7), exactly(1000000)}},
		{[]api.Barter{barter(0, 0, 1)}, []api.Span{exactly(7), span(3, 6), {}, exactly(7), exactly(1000000)}},
		{[]api.Barter{barter(0, 0, 3)}, []api.Span{exactly(1), span(7, 16), {}, exactly(7), exactly(1000000)}},
		{[]api.Barter{barter(0, 0, 2), barter(0, 0, 1)}, []api.Span{exactly(1), span(7, 16), {}, exactly(7), exactly(1000000)}},
		{[]api.Barter{barter(0, 0, 3), barter(0, 1, 1)}, []api.Span{exactly(1), span(3, 12), exactly(1), exactly(7), exactly(1000000)}},
		{[]api.Barter{barter(0, 0, 3), barter(0, 1, 1), barter(0, 2, 1), barter(0, 0, 3)}, []api.Span{span(2, 12), span(9, 27), {}, exactly(7), exactly(1000000)}},
	} {
		wantRun(t, offers, one, from, x.l, x.held, nil)
	}
	for _, x := range []struct {
		l  []api.Barter
		at int
		e  api.Errno
	}{
		{[]api.Barter{barter(0, 0, 4)}, 0, api.ErrShort},
		{[]api.Barter{barter(0, 1, 1)}, 0, api.ErrShort},
		{[]api.Barter{barter(0, 0, 2), barter(0, 0, 2)}, 1, api.ErrShort},
		// There may be 16 of the good 1, but there are 7 for sure.
		{[]api.Barter{barter(0, 0, 3), barter(0, 1, 2)}, 1, api.ErrShort},
		// What is got later is not there yet.
		{[]api.Barter{barter(0, 1, 1), barter(0, 0, 3)}, 0, api.ErrShort},
		{[]api.Barter{barter(0, 0, 3), barter(0, 1, 1), barter(0, 2, 1), barter(0, 0, 4)}, 3, api.ErrShort},
	} {
		wantNotRun(t, offers, one, from, x.l, x.at, x.e)
	}
}

// P6.2: on a road the least number is kept by the Lo, the greatest one by the Hi, and the other way round what is lost; each is rounded.
func TestRoads(t *testing.T) {
	keeps := []api.Span{exactly(1000), span(0, 1000), span(333, 667), exactly(0), span(999, 1000)}
	two := []api.Fair{keeping(fair(1, 1), keeps...), keeping(fair(1, 2), all(exactly(0))...)}
	held := []api.Span{exactly(7), span(0, 7), span(2, 4), {}, span(6, 7)}
	wantRun(t, nil, two, list(7, 7, 7, 7, 7), nil, held, []api.Loss{loss(0, 1, 0, 7), loss(0, 2, 3, 5), loss(0, 3, 7, 7), loss(0, 4, 0, 1)})
	// Nothing is lost of what there is not, and no road leads from the last fair.
	wantRun(t, nil, two, stocks(4, 1000), nil, []api.Span{{}, {}, {}, {}, span(999, 1000)}, []api.Loss{loss(0, 4, 0, 1)})
	wantRun(t, nil, two[1:], list(7, 7, 7, 7, 7), nil, []api.Span{exactly(7), exactly(7), exactly(7), exactly(7), exactly(7)}, nil)
	// Losses are in the order of the roads, and then of the goods.
	half := keeping(fair(1, 1), all(exactly(500))...)
	wantRun(t, nil, []api.Fair{half, half, half, half}, list(3, 0, 1, 0, 9), nil, []api.Span{{}, {}, {}, {}, exactly(1)}, []api.Loss{
		loss(0, 0, 2, 2), loss(0, 2, 1, 1), loss(0, 4, 5, 5), loss(1, 0, 1, 1), loss(1, 4, 2, 2), loss(2, 4, 1, 1),
	})
	// A span: 30 to 80 of the good 1.
	o := []api.Offer{offer(0, 1, 1, span(3, 8))}
	road := keeping(fair(1, 1), exactly(1000), span(250, 750), exactly(1), exactly(1), exactly(1))
	wantRun(t, o, []api.Fair{road, road}, stocks(0, 10), []api.Barter{barter(0, 0, 10)}, []api.Span{{}, span(7, 60), {}, {}, {}}, []api.Loss{loss(0, 1, 8, 60)})
	wantRun(t, o, []api.Fair{road, road, road}, stocks(0, 10), []api.Barter{barter(0, 0, 10)}, []api.Span{{}, span(1, 45), {}, {}, {}}, []api.Loss{loss(0, 1, 8, 60), loss(1, 1, 2, 45)})
}

// P6.2: barters are done at their fairs, after the roads to them and before the roads from them.
func TestFairs(t *testing.T) {
	offers := []api.Offer{from(1, 0, 9, offer(0, 1, 1, exactly(1))), from(2, 0, 9, offer(0, 1, 1, exactly(2))), from(3, 0, 9, offer(0, 1, 1, exactly(3)))}
	half := all(exactly(500))
	trip := []api.Fair{keeping(fair(1, 1), half...), keeping(fair(2, 1), half...), keeping(fair(3, 9), half...)}
	for _, x := range []struct {
		l      []api.Barter
		held   int // of the goods 0 and 1
		got    int
		losses []api.Loss
	}{
		{[]api.Barter{barter(0, 0, 4)}, 24, 1, []api.Loss{loss(0, 0, 48, 48), loss(0, 1, 2, 2), loss(1, 0, 24, 24), loss(1, 1, 1, 1)}},
		{[]api.Barter{barter(1, 1, 4)}, 23, 4, []api.Loss{loss(0, 0, 50, 50), loss(1, 0, 23, 23), loss(1, 1, 4, 4)}},
		{[]api.Barter{barter(2, 2, 4)}, 21, 12, []api.Loss{loss(0, 0, 50, 50), loss(1, 0, 25, 25)}},
		{[]api.Barter{barter(2, 2, 4), barter(2, 2, 1)}, 20, 15, []api.Loss{loss(0, 0, 50, 50), loss(1, 0, 25, 25)}},
		{[]api.Barter{barter(0, 0, 4), barter(2, 2, 4)}, 20, 13, []api.Loss{loss(0, 0, 48, 48), loss(0, 1, 2, 2), loss(1, 0, 24, 24), loss(1, 1, 1, 1)}},
	} {
		wantRun(t, offers, trip, stocks(0, 100), x.l, []api.Span{exactly(x.held), exactly(x.got), {}, {}, {}}, x.losses)
	}
	for _, x := range []struct {
		l  []api.Barter
		at int
		e  api.Errno
	}{
		{[]api.Barter{barter(1, 1, 51)}, 0, api.ErrShort},
		{[]api.Barter{barter(2, 2, 26)}, 0, api.ErrShort},
		{[]api.Barter{barter(1, 0, 1)}, 0, api.ErrBarter},
		{[]api.Barter{barter(0, 1, 1)}, 0, api.ErrBarter},
		{[]api.Barter{barter(1, 1, 1), barter(0, 0, 1)}, 1, api.ErrBarter},
		{[]api.Barter{barter(0, 0, 1), barter(2, 2, 1), barter(2, 2, 1), barter(1, 1, 1)}, 3, api.ErrBarter},
	} {
		wantNotRun(t, offers, trip, stocks(0, 100), x.l, x.at, x.e)
	}
}

// P6.2: the ranges of the numbers of a barter.
func TestCheckBarter(t *testing.T) {
	offers := []api.Offer{from(2, 0, 100000, offer(0, 2, 1, exactly(1))), offer(0, 1, 1, exactly(1)), offer(0, 1, 1, exactly(1))}
	trip := []api.Fair{fair(1, 1), fair(2, 2), fair(1, 3)}
	check := func(b api.Barter, valid bool) {
		t.Helper()
		for before, l := range [][]api.Barter{{b}, {barter(0, 2, 3), b}} {
			at := before
			if valid {
				at = 0
			}
			if _, _, i, e := market.Run(offers, trip, stocks(0, 9), l); e != due(valid, api.ErrBarter) || i != at {
				t.Error(l, i, e, valid)
			}
		}
	}
	for n := range around(0, 2) {
		check(barter(n, 1, 1), n == 0 || n == 2)
		check(barter(0, n, 1), n == 2)
	}
	for _, n := range []int{-1, 3, 1 << 32, 1<<32 + 1} {
		check(barter(0, n, 1), false)
		check(barter(n, 1, 1), false)
	}
	check(barter(0, 0, 1), false)
	check(barter(1, 0, 1), true)
	check(barter(0, 1, 6), true)
	for _, n := range []int{0, -1, -1 << 40, 1000000000000001, 1 << 62, math.MinInt, math.MaxInt} {
		check(barter(0, 1, n), false)
		// What is wrong is found before what is short.
		wantNotRun(t, offers, trip, stocks(3, 1), []api.Barter{barter(1, 0, n)}, 0, api.ErrBarter)
	}
	// So many are not there; they would be less than nothing if they overflowed.
	for _, n := range []int{1000000, 1 << 40, 1000000000000000} {
		wantNotRun(t, offers, trip, stocks(0, 1000000), []api.Barter{barter(1, 0, n)}, 0, api.ErrShort)
	}
}

// P6.2: of no good are there ever more than MaxHeld.
func TestFull(t *testing.T) {
	offers := []api.Offer{offer(0, 1, 1, exactly(50)), offer(1, 1, 0, exactly(20)), offer(1, 1, 2, span(49, 50)), offer(3, 1, 2, span(1, 2))}
	one := []api.Fair{fair(1, 1)}
	// 10^6, by 1,000 each two times: 10^15 of the good 0.
	l := []api.Barter{barter(0, 0, 1000000), barter(0, 1, 50000000), barter(0, 0, 1000000000), barter(0, 1, 50000000000), barter(0, 0, 1000000000000), barter(0, 1, 50000000000000)}
	wantRun(t, offers, one, stocks(0, 1000000), l, []api.Span{exactly(1000000000000000), {}, {}, {}, {}}, nil)
	five := append(l[:5:5], barter(0, 1, 5))
	wantRun(t, offers, one, stocks(0, 1000000), five, []api.Span{exactly(100), exactly(50000000000000 - 5), {}, {}, {}}, nil)
	// One more of the good 0 that was there before is one too many.
	full := list(1000000, 0, 0, 0, 0)
	less := append([]api.Barter{barter(0, 0, 999999)}, l[1:]...)
	less[1].Times, less[2].Times, less[3].Times, less[4].Times, less[5].Times = 999999*50, 999999000, 999999000*50, 999999000000, 999999000000*50
	wantRun(t, offers, one, full, less, []api.Span{exactly(999999000000000 + 1), {}, {}, {}, {}}, nil)
	// All of it for the good 1 would be 50 times as many.
	wantNotRun(t, offers, one, stocks(0, 1000000), append(l[:6:6], barter(0, 0, 20000000000001)), 6, api.ErrFull)
	wantNotRun(t, offers, one, stocks(0, 1000000), append(l[:6:6], barter(0, 0, 1000000000000000)), 6, api.ErrFull)
	wantRun(t, offers, one, stocks(0, 1000000), append(l[:6:6], barter(0, 0, 20000000000000)), []api.Span{exactly(980000000000000), exactly(1000000000000000), {}, {}, {}}, nil)
	// The greatest number counts, and what there was already: of 2 there are up to 10^15, then up to 2 more.
	wide := append(l[:5:5], barter(0, 2, 20000000000000))
	wantRun(t, offers, one, list(1000000, 0, 0, 1, 0), wide, []api.Span{{}, exactly(30000000000000), span(980000000000000, 1000000000000000), exactly(1), {}}, nil)
	wantNotRun(t, offers, one, list(1000000, 0, 0, 1, 0), append(wide, barter(0, 3, 1)), 6, api.ErrFull)
	wantNotRun(t, offers, one, list(1000000, 0, 1, 1, 0), wide, 5, api.ErrFull)
	// What is short is found before what is too much.
	wantNotRun(t, offers, one, list(1000000, 0, 0, 1, 0), append(wide, barter(0, 3, 2)), 6, api.ErrShort)
	// Nor does anything overflow on a road.
	road := keeping(fair(1, 1), span(1, 999), exactly(1000), exactly(1000), exactly(1000), exactly(1000))
	wantRun(t, offers, []api.Fair{road, road}, stocks(0, 1000000), l, []api.Span{span(1000000000000, 999000000000000), {}, {}, {}, {}}, []api.Loss{loss(0, 0, 1000000000000, 999000000000000)})
}

// P6.2: there are at most 60 barters, and their number is looked at before any of them.
func TestManyBarters(t *testing.T) {
	offers := []api.Offer{offer(0, 1, 1, exactly(1))}
	one := []api.Fair{fair(1, 1)}
	var l []api.Barter
	for range 60 {
		l = append(l, barter(0, 0, 1))
	}
	wantRun(t, offers, one, stocks(0, 60), l, []api.Span{{}, exactly(60), {}, {}, {}}, nil)
	wantNotRun(t, offers, one, stocks(0, 59), l, 59, api.ErrShort)
	l = append(l, barter(0, 0, 1))
	wantNotRun(t, offers, one, stocks(0, 100), l, 0, api.ErrMany)
	l[0].Fair = -1
	wantNotRun(t, offers, one, stocks(0, 100), l, 0, api.ErrMany)
	wantNotRun(t, offers, one, stocks(0, 100), l[:60], 0, api.ErrBarter)
}
