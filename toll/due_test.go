package toll_test

import (
	"testing"

	"azalai/api"
)

// P7.3: so much for each animal, and a part of the worth, rounded up; nothing of a guest.
func TestToll(t *testing.T) {
	for _, x := range []struct{ heads, worth, head, part, want int }{
		{1, 0, 0, 0, 0},
		{7, 5000, 3, 0, 21},
		{7, 5000, 0, 10, 50},
		{7, 5000, 3, 10, 71},
		{1, 1, 0, 1, 1},
		{1, 1000, 0, 1, 1},
		{1, 1001, 0, 1, 2},
		{1, 999, 0, 999, 999},
		{1, 998, 0, 999, 998},
		{3, 1, 5, 1000, 16},
		{3, 0, 5, 1000, 15},
		{1000, 1000000000000, 1000000, 1000, 1001000000000},
		{1000, 999999999999, 1000000, 1, 2000000000},
		{1000, 999999999999, 999999, 333, 333999999000},
	} {
		j := road()
		j.legs = list(0)
		j.t.Heads, j.t.Worth = x.heads, x.worth
		j.c.Claims = []api.Claim{claim(1, 0, 0, 99, 9, 9), claim(0, 3, 0, 99, x.head, x.part)}
		if x.want == 0 {
			j.wantDue(t, exactly(0))
		} else {
			j.wantDue(t, exactly(x.want), tolled(0, 3, x.want, x.want))
		}
		j.t.People, j.t.Guides, j.t.Guests = list(3), list(3), list(0, 1, 2, 4, 5, 6, 7)
		if x.want > 0 {
			j.wantDue(t, exactly(x.want), tolled(0, 3, x.want, x.want))
		}
		for _, guests := range [][]int{{3}, {0, 3, 7}} {
			j.t.Guests = guests
			j.wantDue(t, exactly(0))
		}
	}
}

// P7.3: on each leg the holder on the day on which one leaves is paid: on 10, and on 12 to 14.
func TestDue(t *testing.T) {
	for i, x := range []struct {
		claims []api.Claim
		legs   []int
		all    api.Span
		tolls  []api.Toll
	}{
		{nil, list(0, 1), exactly(0), nil},
		{[]api.Claim{claim(0, 1, 0, 99, 5, 0)}, nil, exactly(0), nil},
		{[]api.Claim{claim(0, 1, 10, 10, 5, 0)}, list(0, 1), exactly(5), []api.Toll{tolled(0, 1, 5, 5)}},
		// Not on the days after one left.
		{[]api.Claim{claim(0, 1, 0, 9, 5, 0), claim(0, 2, 11, 99, 6, 0)}, list(0, 1), exactly(0), nil},
		{[]api.Claim{claim(1, 1, 0, 11, 5, 0), claim(1, 2, 15, 99, 6, 0)}, list(0, 1), exactly(0), nil},
		{[]api.Claim{claim(1, 1, 0, 12, 5, 0), claim(1, 2, 14, 99, 6, 0)}, list(0, 1), span(0, 6), []api.Toll{tolled(1, 1, 0, 5), tolled(1, 2, 0, 6)}},
		{[]api.Claim{claim(1, 2, 0, 12, 5, 0), claim(1, 1, 13, 13, 7, 0), claim(1, 0, 14, 99, 6, 0)}, list(0, 1), span(5, 7), []api.Toll{tolled(1, 0, 0, 6), tolled(1, 1, 0, 7), tolled(1, 2, 0, 5)}},
		{[]api.Claim{claim(1, 2, 13, 13, 5, 0)}, list(0, 1), span(0, 5), []api.Toll{tolled(1, 2, 0, 5)}},
		{[]api.Claim{claim(1, 2, 12, 14, 5, 0)}, list(0, 1), exactly(5), []api.Toll{tolled(1, 2, 5, 5)}},
		{[]api.Claim{claim(1, 2, 0, 13, 5, 0)}, list(0, 1), span(0, 5), []api.Toll{tolled(1, 2, 0, 5)}},
		{[]api.Claim{claim(1, 2, 13, 99, 5, 0)}, list(0, 1), span(0, 5), []api.Toll{tolled(1, 2, 0, 5)}},
		// A tribe gets one toll by one claim, and another one by another.
		{[]api.Claim{claim(1, 2, 0, 12, 5, 0), claim(1, 2, 13, 99, 8, 0)}, list(0, 1), span(5, 8), []api.Toll{tolled(1, 2, 5, 8)}},
		{[]api.Claim{claim(1, 2, 0, 12, 9, 0), claim(1, 3, 0, 13, 4, 0), claim(1, 2, 13, 99, 8, 0)}, list(0, 1), span(4, 9), []api.Toll{tolled(1, 2, 0, 9), tolled(1, 3, 0, 4)}},
		// Only the holder is paid: who claims it later, or is of a greater tribe, is not.
		{[]api.Claim{claim(0, 3, 2, 99, 7, 0), claim(0, 4, 1, 99, 6, 0), claim(0, 2, 2, 99, 5, 0)}, list(0), exactly(6), []api.Toll{tolled(0, 4, 6, 6)}},
		{[]api.Claim{claim(0, 3, 2, 99, 7, 0), claim(0, 2, 2, 99, 5, 0), claim(0, 2, 2, 99, 4, 0)}, list(0), exactly(5), []api.Toll{tolled(0, 2, 5, 5)}},
		// A holder who takes nothing leaves nothing to others.
		{[]api.Claim{claim(0, 3, 2, 99, 7, 0), claim(0, 4, 1, 99, 0, 0)}, list(0), exactly(0), nil},
		{[]api.Claim{claim(1, 3, 2, 99, 7, 0), claim(1, 4, 1, 12, 0, 0)}, list(0, 1), span(0, 7), []api.Toll{tolled(1, 3, 0, 7)}},
		// By the place of the leg in the way: the leg 2 at the place 1, left on 30 to 33.
		{[]api.Claim{claim(2, 7, 0, 31, 5, 0), claim(1, 2, 0, 99, 9, 0)}, list(0, 2), span(0, 5), []api.Toll{tolled(1, 7, 0, 5)}},
		{[]api.Claim{claim(2, 7, 0, 29, 5, 0), claim(2, 2, 34, 99, 9, 0)}, list(0, 2), exactly(0), nil},
		{[]api.Claim{claim(2, 7, 33, 33, 5, 0)}, list(0, 2), span(0, 5), []api.Toll{tolled(1, 7, 0, 5)}},
		// Three times by the same leg, left on 10, on 12 to 14, and on 14 to 18.
		{[]api.Claim{claim(0, 7, 0, 14, 5, 0), claim(0, 1, 12, 99, 3, 0)}, list(0, 0, 0), span(13, 15), []api.Toll{tolled(0, 7, 5, 5), tolled(1, 7, 5, 5), tolled(2, 1, 0, 3), tolled(2, 7, 0, 5)}},
	} {
		j := road()
		j.c.Claims, j.legs = x.claims, x.legs
		j.wantDue(t, x.all, x.tolls...)
		if t.Failed() {
			t.Fatal(i)
		}
	}
}

// P7.3: of one tribe one is a guest, of another one not; the least and the greatest are of all.
func TestDueOfGuests(t *testing.T) {
	j := road()
	j.c.Claims = []api.Claim{claim(0, 1, 0, 99, 5, 0), claim(1, 2, 0, 12, 6, 0), claim(1, 1, 13, 13, 7, 0), claim(1, 3, 14, 14, 8, 0)}
	j.wantDue(t, span(11, 13), tolled(0, 1, 5, 5), tolled(1, 1, 0, 7), tolled(1, 2, 0, 6), tolled(1, 3, 0, 8))
	j.t.Guests = list(1)
	j.wantDue(t, span(0, 8), tolled(1, 2, 0, 6), tolled(1, 3, 0, 8))
	j.t.Guests = list(1, 2)
	j.wantDue(t, span(0, 8), tolled(1, 3, 0, 8))
	j.t.Guests = list(3)
	j.wantDue(t, span(5, 12), tolled(0, 1, 5, 5), tolled(1, 1, 0, 7), tolled(1, 2, 0, 6))
	// The host is the holder all the same: no other one is paid then.
	j.c.Claims = []api.Claim{claim(0, 1, 5, 99, 5, 0), claim(0, 3, 0, 99, 5, 0)}
	j.wantDue(t, exactly(0))
}

// P7.3: what is due does not matter to whether the way is barred, nor the other way round.
func TestDueIfBarred(t *testing.T) {
	j := road()
	j.t.People = list(2)
	j.c = api.Custom{Claims: []api.Claim{{Leg: 0, Tribe: 1, To: 99, Head: 5, Guide: true}}}
	j.wantDue(t, exactly(5), tolled(0, 1, 5, 5))
	j.c.Feuds = []api.Feud{feud(1, 2, 0, 99)}
	j.wantDue(t, exactly(5), tolled(0, 1, 5, 5))
	j.c.Borders = []api.Border{border(0, 0, 99)}
	j.wantDue(t, exactly(5), tolled(0, 1, 5, 5))
	j.wantBarred(t, api.BarBorder, 0)
}

// P7.3: as much as can be due, by as many legs as there can be, and over all days.
func TestDueMost(t *testing.T) {
	j := road()
	j.t.Heads, j.t.Worth = 1000, 1000000000000
	j.c.Claims = []api.Claim{claim(0, 7, 0, 100000, 1000000, 1000)}
	j.legs = nil
	var tolls []api.Toll
	for at := range 24 {
		j.legs = append(j.legs, 0)
		tolls = append(tolls, tolled(at, 7, 1001000000000, 1001000000000))
	}
	j.wantDue(t, exactly(24024000000000), tolls...)
	// One may leave on each day from 1 to 99999.
	j = road()
	j.l, j.day, j.legs = paths(2, path(0, 1, span(1, 99999)), path(0, 1, exactly(1))), 0, list(0, 1)
	for day, want := range map[int]api.Span{0: exactly(0), 1: span(0, 5), 50000: span(0, 5), 99999: span(0, 5), 100000: exactly(0)} {
		j.c.Claims = []api.Claim{claim(1, 4, day, day, 5, 0)}
		if want.Hi == 0 {
			j.wantDue(t, want)
		} else {
			j.wantDue(t, want, tolled(1, 4, 0, 5))
		}
	}
	j.c.Claims = []api.Claim{claim(1, 4, 1, 99999, 5, 0)}
	j.wantDue(t, exactly(5), tolled(1, 4, 5, 5))
}
