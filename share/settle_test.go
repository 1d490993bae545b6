package share_test

import (
	"slices"
	"testing"

	"azalai/api"
	"azalai/share"
)

// even is a pact of three partners with equal shares of all but a tenth, and of whom the third one put in nothing.
func even() api.Pact {
	p := pact(one(1, 1000, 450), one(2, 1000, 450), one(3, 0, 100))
	p.Hire = 10
	return p
}

// P8.3: a profit by shares, a loss by puts.
func TestSettleMoney(t *testing.T) {
	p := even()
	wantSettled(t, p, nil, 1000, 1000, 0)
	wantSettled(t, p, letters(sold(1, 1, 100)), 1045, 1045, 10)
	wantSettled(t, p, letters(spent(1, 1, 100)), 950, 950, 0)
	wantSettled(t, p, letters(spent(1, 1, 100), sold(2, 2, 80), sold(3, 100, 40)), 1009, 1009, 2)
	wantSettled(t, p, letters(spent(1, 1, 100), sold(2, 2, 80), sold(3, 101, 40)), 990, 990, 0)
	// What is lost may be more than what was put in.
	wantSettled(t, p, letters(spent(1, 1, 9999), spent(2, 1, 2)), -4001, -4000, 0)
}

// P8.3: the hire of an animal, from the day on which it is lent to the one on which it is not, or to the end.
func TestSettleHire(t *testing.T) {
	p := even()
	for i, x := range []struct {
		l    []api.Letter
		want []int
	}{
		{letters(lent(1, 10, 3, 5), back(2, 20, 5)), list(950, 950, 100)},
		{letters(lent(1, 10, 3, 5), dead(2, 20, 5)), list(950, 950, 100)},
		{letters(lent(1, 10, 3, 5), back(2, 11, 5)), list(995, 995, 10)},
		{letters(lent(1, 10, 3, 5), back(2, 10, 5)), list(1000, 1000, 0)},
		{letters(lent(1, 10, 3, 5)), list(550, 550, 900)},
		{letters(lent(1, 10, 3, 5), back(2, 101, 5)), list(550, 550, 900)},
		{letters(lent(1, 10, 3, 5), dead(2, 100, 5)), list(550, 550, 900)},
		{letters(lent(1, 0, 3, 5)), list(500, 500, 1000)},
		{letters(lent(1, 100, 3, 5)), list(1000, 1000, 0)},
		{letters(lent(1, 101, 3, 5)), list(1000, 1000, 0)},
		// To the one who lent it then; a void letter neither lends nor ends it.
		{letters(lent(1, 10, 3, 5), back(2, 20, 5), lent(3, 30, 1, 5), back(4, 34, 5)), list(970, 930, 100)},
		{letters(lent(1, 10, 3, 5), lent(2, 15, 1, 5), back(3, 20, 5), back(4, 40, 5)), list(950, 950, 100)},
		{letters(lent(1, 10, 3, 5), dead(2, 20, 5), lent(3, 30, 1, 5)), list(950, 950, 100)},
		{letters(lent(1, 10, 3, 5), back(2, 20, 6), back(3, 30, 5)), list(900, 900, 200)},
		// Several animals of one partner, and of others.
		{letters(lent(1, 10, 3, 5), lent(2, 10, 3, 6), lent(3, 10, 2, 7), back(4, 12, 6), back(5, 14, 7), back(6, 20, 5)), list(920, 960, 120)},
		// A profit is what is left of it.
		{letters(sold(1, 1, 200), lent(2, 10, 3, 5), back(3, 20, 5)), list(1045, 1045, 110)},
	} {
		wantSettled(t, p, x.l, x.want...)
		if t.Failed() {
			t.Fatal(i)
		}
	}
	p.Hire = 0
	wantSettled(t, p, letters(lent(1, 10, 3, 5), back(2, 20, 5)), 1000, 1000, 0)
}

// P8.3, P8.5: the parts of calves, each one once.
func TestSettleCalves(t *testing.T) {
	p := even()
	p.Hire = 0
	for i, x := range []struct {
		part int
		l    []api.Letter
		want []int
	}{
		{500, letters(lent(1, 1, 3, 5), calf(2, 2, 5, 6, 200)), list(1045, 1045, 110)},
		{0, letters(lent(1, 1, 3, 5), calf(2, 2, 5, 6, 200)), list(1090, 1090, 20)},
		{1000, letters(lent(1, 1, 3, 5), calf(2, 2, 5, 6, 200)), list(1000, 1000, 200)},
		// 66.6, rounded down: the company has 134, of which the parts are 60.3, 60.3 and 13.4.
		{333, letters(lent(1, 1, 3, 5), calf(2, 2, 5, 6, 200)), list(1060, 1060, 80)},
		{999, letters(lent(1, 1, 3, 5), calf(2, 2, 5, 6, 1)), list(1001, 1000, 0)},
		// What two letters tell is paid once, by the worth of the first one.
		{1000, letters(lent(1, 1, 3, 5), calf(2, 2, 5, 6, 200), calf(3, 3, 5, 6, 300)), list(1000, 1000, 200)},
		{1000, letters(lent(1, 1, 3, 5), calf(3, 2, 5, 6, 200), calf(2, 3, 5, 6, 300)), list(1000, 1000, 200)},
		{1000, letters(lent(1, 1, 3, 5), lent(2, 1, 2, 7), calf(3, 2, 5, 6, 200), calf(4, 3, 7, 6, 300)), list(1000, 1000, 200)},
		{1000, letters(lent(1, 1, 3, 5), calf(2, 2, 5, 6, 200), calf(3, 2, 5, 7, 300)), list(1000, 1000, 500)},
		// To the owner of that time; not after it is given back or dead.
		{1000, letters(lent(1, 1, 3, 5), calf(2, 2, 5, 6, 200), back(3, 3, 5), lent(4, 4, 2, 5), calf(5, 5, 5, 7, 30)), list(1000, 1030, 200)},
		{1000, letters(lent(1, 1, 3, 5), back(2, 3, 5), calf(3, 3, 5, 7, 30)), list(1000, 1000, 0)},
		{1000, letters(lent(1, 1, 3, 5), dead(2, 3, 5), calf(3, 4, 5, 7, 30)), list(1000, 1000, 0)},
		{1000, letters(lent(1, 1, 3, 5), calf(2, 3, 5, 7, 30), dead(3, 3, 5)), list(1000, 1000, 30)},
		{1000, letters(lent(1, 1, 3, 5), calf(2, 101, 5, 7, 30)), list(1000, 1000, 0)},
		// Each calf's part is rounded, not that of all: 0.5 and 0.5 are nothing, and the company has 2.
		{500, letters(lent(1, 1, 3, 5), calf(2, 2, 5, 6, 1), calf(3, 2, 5, 7, 1)), list(1001, 1001, 0)},
	} {
		p.Calf = x.part
		wantSettled(t, p, x.l, x.want...)
		if t.Failed() {
			t.Fatal(i)
		}
	}
}

// P8.3: what is owed to somebody, and by whom.
func TestDebts(t *testing.T) {
	p := even()
	l := letters(owes(1, 1, 1, 2, 40), owes(2, 2, 1, 2, 5), owes(3, 3, 2, 1, 7), pays(4, 4, 1, 2, 20), pays(5, 4, 1, 2, 30), owes(6, 5, 3, 1, 100), owes(7, 101, 3, 2, 100), pays(8, 101, 3, 1, 100))
	wantSettled(t, p, l, 1082, 1018, -100)
	for _, x := range []struct{ who, other, want int }{{1, 2, 25}, {2, 1, 7}, {3, 1, 100}, {1, 3, 0}, {2, 3, 0}, {3, 2, 0}} {
		wantOwed(t, p, l, x.who, x.other, x.want)
		slices.Reverse(l)
		wantOwed(t, p, l, x.who, x.other, x.want)
		wantOwed(t, p, slices.Repeat(l, 3), x.who, x.other, x.want)
	}
	// All is paid, and no more.
	l = letters(owes(1, 1, 1, 2, 40), pays(2, 2, 1, 2, 40), pays(3, 3, 1, 2, 1))
	wantOwed(t, p, l, 1, 2, 0)
	wantSettled(t, p, l, 1000, 1000, 0)
	// What is told by mouth counts as all else.
	wantOwed(t, p, letters(told(owes(1, 1, 1, 2, 40)), told(pays(2, 2, 1, 2, 1))), 1, 2, 39)
}

// P8.3: who and other are the Ids of two different partners.
func TestOwedPartners(t *testing.T) {
	c := valid()
	c.l = letters(owes(1, 1, 1, 2, 40))
	for _, x := range []struct {
		who, other int
		e          api.Errno
	}{
		{1, 2, api.OK}, {2, 1, api.OK}, {3, 1, api.OK},
		{1, 1, api.ErrArg}, {0, 1, api.ErrArg}, {1, 0, api.ErrArg}, {4, 1, api.ErrArg}, {1, 4, api.ErrArg}, {-1, 1, api.ErrArg}, {1 << 32, 1<<32 + 1, api.ErrArg}, {1<<32 + 1, 2, api.ErrArg}, {9, 9, api.ErrArg},
	} {
		c.who, c.other = x.who, x.other
		if n, e := share.Owed(c.p, c.l, x.who, x.other); e != x.e || e != api.OK && n != 0 {
			t.Error(x, n, e)
		}
	}
	c.p = pact(one(0, 1, 1000))
	c.l, c.who, c.other = nil, 0, 0
	c.wantErrors(t, api.ErrArg, "Owed")
}

// P8.5: letters that come late change what they would have changed if they had come at once.
func TestLate(t *testing.T) {
	p := even()
	// The letter that it was lent comes last, and so its calf and its hire are known at last.
	l := letters(calf(3, 5, 5, 6, 200), back(4, 10, 5))
	wantSettled(t, p, l, 1000, 1000, 0)
	wantRead(t, p, l, l, whys(api.VoidHome, api.VoidHome))
	l = append(l, lent(2, 2, 3, 5))
	wantSettled(t, p, l, 1009, 1009, 182)
	// One by which another one is void.
	l = append(l, back(1, 4, 5))
	wantSettled(t, p, l, 990, 990, 20)
	wantRead(t, p, l, letters(l[2], l[3], l[0], l[1]), whys(0, 0, api.VoidHome, api.VoidHome))
	// A calf of which an earlier letter tells late is worth what that one says.
	l = letters(lent(1, 1, 3, 5), calf(3, 5, 5, 6, 200))
	p.Hire = 0
	wantSettled(t, p, l, 1045, 1045, 110)
	wantSettled(t, p, append(l, calf(4, 4, 5, 6, 100)), 1023, 1022, 55)
}

// P8.3, P8.6: the greatest results.
func TestSettleMost(t *testing.T) {
	p := pact(one(0, 100000000, 1000), one(1, 100000000, 0))
	p.Hire, p.Ends = 1000, 100000
	var hired, earned, worth []api.Letter
	for id := range 100 {
		hired = append(hired, lent(id, 0, 1, id))
		earned = append(earned, sold(id, 0, 10000000))
		worth = append(worth, calf(id+1, 0, 7, id, 10000000))
	}
	wantSettled(t, p, hired, 100000000-5000000000, 100000000-5000000000+10000000000)
	wantSettled(t, p, earned, 1100000000, 100000000)
	worth[99] = lent(0, 0, 1, 7)
	p.Hire, p.Calf = 0, 1000
	wantSettled(t, p, worth, 100000000, 1090000000)
}
