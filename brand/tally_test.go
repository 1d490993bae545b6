package brand_test

import (
	"slices"
	"testing"

	"azalai/api"
	"azalai/brand"
)

// rowSpans returns the spans of a row: three that come, three that go, and the count.
func rowSpans(r *api.Row) [7]*api.Span {
	return [7]*api.Span{&r.Born, &r.Bought, &r.Found, &r.Died, &r.Sold, &r.Strayed, &r.Count}
}

func wide() api.Span { return span(0, 100000) }

// P2.5: each number is bound by all others of its row, and by the counts of other rows.
func TestTally(t *testing.T) {
	for i, x := range []struct {
		first  api.Span
		rows   []api.Row
		counts []api.Span
		known  []api.Row
	}{
		{span(3, 8), nil, []api.Span{span(3, 8)}, nil},
		{wide(), []api.Row{{Count: wide()}}, []api.Span{wide(), wide()}, []api.Row{{Count: wide()}}},
		// A count after it tells the first one.
		{wide(), []api.Row{{Count: span(7, 9)}}, []api.Span{span(7, 9), span(7, 9)}, []api.Row{{Count: span(7, 9)}}},
		{
			wide(), []api.Row{{Born: span(1, 2), Count: wide()}, {Sold: span(3, 5), Count: span(7, 7)}},
			[]api.Span{span(8, 11), span(10, 12), span(7, 7)},
			[]api.Row{{Born: span(1, 2), Count: span(10, 12)}, {Sold: span(3, 5), Count: span(7, 7)}},
		},
		// Who comes, and who goes, is told by all others.
		{
			span(5, 6), []api.Row{{Born: wide(), Bought: span(1, 2), Died: span(0, 3), Count: span(10, 10)}},
			[]api.Span{span(5, 6), span(10, 10)},
			[]api.Row{{Born: span(2, 7), Bought: span(1, 2), Died: span(0, 3), Count: span(10, 10)}},
		},
		{
			span(5, 6), []api.Row{{Found: span(0, 1), Sold: span(1, 9), Strayed: span(2, 20), Count: span(1, 2)}},
			[]api.Span{span(5, 6), span(1, 2)},
			[]api.Row{{Found: span(0, 1), Sold: span(1, 4), Strayed: span(2, 5), Count: span(1, 2)}},
		},
		// No count is below 0, nor above what a count may be.
		{
			span(5, 5), []api.Row{{Died: wide(), Count: wide()}},
			[]api.Span{span(5, 5), span(0, 5)},
			[]api.Row{{Died: span(0, 5), Count: span(0, 5)}},
		},
		{
			span(99999, 100000), []api.Row{{Bought: wide(), Count: wide()}},
			[]api.Span{span(99999, 100000), span(99999, 100000)},
			[]api.Row{{Bought: span(0, 1), Count: span(99999, 100000)}},
		},
		{
			wide(), []api.Row{{Born: span(100000, 100000), Bought: span(100000, 100000), Found: span(100000, 100000), Died: span(100000, 100000), Sold: span(100000, 100000), Strayed: wide(), Count: wide()}},
			[]api.Span{wide(), wide()},
			[]api.Row{{Born: span(100000, 100000), Bought: span(100000, 100000), Found: span(100000, 100000), Died: span(100000, 100000), Sold: span(100000, 100000), Strayed: wide(), Count: wide()}},
		},
	} {
		counts, known, at, e := brand.Tally(x.first, x.rows)
		if !slices.Equal(counts, x.counts) || !slices.Equal(known, x.known) || at != 0 || e != api.OK {
			t.Error(i, counts, known, at, e)
		}
	}
}

// P2.5: in each of its places a number is told by the others.
func TestTallyPlaces(t *testing.T) {
	for place := range 6 {
		row := api.Row{Count: span(12, 12)}
		*rowSpans(&row)[place] = span(0, 50)
		first, want := span(8, 9), span(3, 4)
		if place >= 3 {
			first = span(15, 16)
		}
		counts, known, _, e := brand.Tally(first, []api.Row{row})
		*rowSpans(&row)[place] = want
		if !slices.Equal(counts, []api.Span{first, span(12, 12)}) || !slices.Equal(known, []api.Row{row}) || e != api.OK {
			t.Error(place, counts, known, e)
		}
		if _, _, at, e := brand.Tally(span(12, 12), []api.Row{{Count: wide()}, with(row, func(r *api.Row) { *rowSpans(r)[place] = span(1, 50) })}); at != 1 || e != api.ErrTally {
			t.Error(place, at, e)
		}
	}
}

// P2.5: the first row that does not fit, and the errors in their order.
func TestTallyErrors(t *testing.T) {
	fine, bad, off := api.Row{Count: wide()}, api.Row{Count: span(1, 0)}, api.Row{Count: span(9, 9)}
	rows := func(n int, last ...api.Row) []api.Row { return append(slices.Repeat([]api.Row{fine}, n), last...) }
	for i, x := range []struct {
		first api.Span
		rows  []api.Row
		at    int
		e     api.Errno
	}{
		{span(8, 8), rows(40), 0, api.OK},
		{span(8, 8), rows(41), 0, api.ErrMany},
		{span(8, 8), rows(0, bad), 0, api.ErrRow},
		{span(8, 8), rows(3, bad, fine, bad), 3, api.ErrRow},
		{span(8, 8), rows(39, bad), 39, api.ErrRow},
		{span(8, 8), rows(40, bad), 0, api.ErrMany},
		{span(8, 8), rows(0, off), 0, api.ErrTally},
		{span(8, 8), rows(2, off, off), 2, api.ErrTally},
		{span(8, 8), rows(39, off), 39, api.ErrTally},
		// An invalid row comes before an earlier one that does not fit.
		{span(8, 8), rows(1, off, fine, bad), 3, api.ErrRow},
		// 9 and 10 are possible up to the first of both, but not up to the second one.
		{span(8, 10), rows(0, off, api.Row{Count: span(10, 10)}), 1, api.ErrTally},
		// It would be below 0 between two rows.
		{span(8, 8), rows(0, api.Row{Died: span(9, 9), Count: wide()}, api.Row{Born: span(9, 9), Count: wide()}), 0, api.ErrTally},
		{span(8, 8), rows(0, api.Row{Born: span(100000, 100000), Count: wide()}), 0, api.ErrTally},
		{span(8, 7), rows(41, bad), 0, api.ErrArg},
		{span(8, 7), nil, 0, api.ErrArg},
	} {
		counts, known, at, e := brand.Tally(x.first, x.rows)
		if at != x.at || e != x.e || e != api.OK && len(counts)+len(known) != 0 {
			t.Error(i, counts, known, at, e)
		}
	}
	for s, valid := range spanCases(0, 100000) {
		if _, _, _, e := brand.Tally(s, nil); e != due(valid, api.ErrArg) {
			t.Error("first", s, e)
		}
		for place := range 7 {
			row := fine
			*rowSpans(&row)[place] = s
			if _, _, at, e := brand.Tally(wide(), []api.Row{fine, row}); (e != api.ErrRow) != valid || !valid && at != 1 {
				t.Error(place, s, at, e)
			}
		}
	}
}
