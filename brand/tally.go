package brand

import (
	"slices"

	"azalai/api"
)

// flows is the numbers of a row that come, or those that go.
type flows [3]*api.Span

// Tally returns what is known of the counts and the rows of a tally (P2.5).
func Tally(first api.Span, rows []api.Row) (counts []api.Span, known []api.Row, at int, e api.Errno) {
	if !within(0, api.MaxCount, first) {
		return nil, nil, 0, api.ErrArg
	}
	if len(rows) > api.MaxRows {
		return nil, nil, 0, api.ErrMany
	}
	if i := slices.IndexFunc(rows, invalid); i >= 0 {
		return nil, nil, i, api.ErrRow
	}
	// A count has fitting numbers before and after it if it has both, as nothing else is in rows on both sides of it.
	counts = []api.Span{first}
	for i, r := range rows {
		count := common(r.Count, less(sum(counts[i], total(comes(&r))), total(goes(&r))))
		if empty(count) {
			return nil, nil, i, api.ErrTally
		}
		counts = append(counts, count)
	}
	for i, r := range slices.Backward(rows) {
		counts[i] = common(counts[i], less(sum(counts[i+1], total(goes(&r))), total(comes(&r))))
	}
	known = make([]api.Row, len(rows))
	for i, r := range rows {
		known[i] = narrowed(r, counts[i], counts[i+1])
	}
	return counts, known, 0, api.OK
}

func invalid(r api.Row) bool {
	return !within(0, api.MaxCount, r.Born, r.Bought, r.Found, r.Died, r.Sold, r.Strayed, r.Count)
}

func comes(r *api.Row) flows { return flows{&r.Born, &r.Bought, &r.Found} }

func goes(r *api.Row) flows { return flows{&r.Died, &r.Sold, &r.Strayed} }

func total(f flows) api.Span { return sum(*f[0], *f[1], *f[2]) }

// narrowed returns a row with what is known of its numbers from the counts before and after it: what was there and came is what is there and went.
func narrowed(r api.Row, was, is api.Span) api.Row {
	r.Count = is
	in, out := comes(&r), goes(&r)
	came, went := sum(was, total(in)), sum(is, total(out))
	in.narrow(came, went)
	out.narrow(went, came)
	return r
}

// narrow leaves of each number what is possible if all on its side of a sum that is even are together as much as the other side.
func (f flows) narrow(side, other api.Span) {
	for _, s := range f {
		rest := api.Span{Lo: side.Lo - s.Lo, Hi: side.Hi - s.Hi}
		*s = common(*s, less(other, rest))
	}
}
