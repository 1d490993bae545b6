package share_test

import (
	"slices"
	"testing"

	"azalai/api"
)

// P8.4: any of what was told by mouth may be true, and the others not.
func TestSurely(t *testing.T) {
	p := even()
	a, b, c := told(sold(1, 1, 100)), told(spent(2, 2, 40)), told(lent(3, 10, 3, 5))
	for i, x := range []struct {
		l    []api.Letter
		want []api.Span
	}{
		{nil, []api.Span{span(1000, 1000), span(1000, 1000), span(0, 0)}},
		{letters(sold(1, 1, 100)), []api.Span{span(1045, 1045), span(1045, 1045), span(10, 10)}},
		{letters(a), []api.Span{span(1000, 1045), span(1000, 1045), span(0, 10)}},
		{letters(b), []api.Span{span(980, 1000), span(980, 1000), span(0, 0)}},
		// Each one has the most if others are true than those by which he has the least.
		{letters(a, b), []api.Span{span(980, 1045), span(980, 1045), span(0, 10)}},
		{letters(a, b, c), []api.Span{span(530, 1045), span(530, 1045), span(0, 900)}},
		{letters(a, b, c, back(4, 20, 5)), []api.Span{span(930, 1045), span(930, 1045), span(0, 100)}},
		// A letter that is void if another one is true.
		{letters(lent(1, 10, 3, 5), told(back(2, 20, 5)), calf(3, 25, 5, 6, 3000), back(4, 30, 5)), []api.Span{span(950, 1585), span(950, 1585), span(100, 1830)}},
		{letters(lent(1, 10, 3, 5), told(calf(2, 15, 5, 6, 1000)), calf(3, 15, 5, 6, 2000), back(4, 10, 6), dead(5, 15, 5)), []api.Span{span(1203, 1428), span(1202, 1427), span(595, 1145)}},
		{letters(told(owes(1, 1, 1, 2, 40)), told(pays(2, 2, 1, 2, 30)), owes(3, 3, 2, 1, 5)), []api.Span{span(965, 1005), span(995, 1035), span(0, 0)}},
		// One letter that came twice is true or not, not each of them.
		{letters(a, a), []api.Span{span(1000, 1045), span(1000, 1045), span(0, 10)}},
		{letters(a, b, a, b, b), []api.Span{span(980, 1045), span(980, 1045), span(0, 10)}},
		// The same with another Id is another one.
		{letters(a, told(sold(9, 1, 100))), []api.Span{span(1000, 1090), span(1000, 1090), span(0, 20)}},
		// What is told for sure, too, is so.
		{letters(lent(1, 1, 3, 5), back(2, 2, 5), told(dead(3, 2, 5)), told(back(4, 2, 5))), []api.Span{span(995, 995), span(995, 995), span(10, 10)}},
		{letters(a, told(sold(9, 101, 100))), []api.Span{span(1000, 1045), span(1000, 1045), span(0, 10)}},
	} {
		wantSurely(t, p, x.l, x.want...)
		slices.Reverse(x.l)
		wantSurely(t, p, x.l, x.want...)
		if t.Failed() {
			t.Fatal(i)
		}
	}
}

// P8.4: at most six of those that are done were told by mouth.
func TestMouth(t *testing.T) {
	c := call{p: even(), who: 1, other: 2}
	for id := range 6 {
		c.l = append(c.l, told(sold(id, 1+id, 100<<id)))
	}
	six := []api.Span{span(1000, 1000+2835), span(1000, 1000+2835), span(0, 630)}
	wantSurely(t, c.p, c.l, six...)
	// Neither one again, nor one that is not done, nor others.
	c.l = append(c.l, c.l...)
	c.l = append(c.l, told(sold(70, 101, 1)), told(sold(71, 100000, 1)), spent(72, 1, 0))
	wantSurely(t, c.p, c.l, six...)
	// A seventh one, also on the last day, and one that is void.
	for _, l := range letters(told(sold(73, 100, 1)), told(back(73, 0, 1)), told(pays(73, 1, 2, 1, 9))) {
		d := c
		d.l = append(slices.Clone(c.l), l)
		d.wantErrors(t, api.ErrMouth, "Surely")
		d.wantErrors(t, api.OK, "Read", "Settle", "Owed")
		slices.Reverse(d.l)
		d.wantErrors(t, api.ErrMouth, "Surely")
	}
	c.p.Ends = 5
	c.l = c.l[:6]
	wantSurely(t, c.p, c.l, span(1000, 1000+1395), span(1000, 1000+1395), span(0, 310))
}
