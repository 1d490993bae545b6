package leader_test

import (
	"testing"

	"azalai/api"
	"azalai/leader"
)

// wantTold checks what is told of a company.
func wantTold(t *testing.T, c api.Company, want api.Report) {
	t.Helper()
	if r, e := leader.Tell(c); shown(r) != shown(want) || e != api.OK {
		t.Errorf("Tell: %v %+v, want %+v", e, r, want)
	}
}

// P10.4: what is told of companies.
func TestTell(t *testing.T) {
	wantTold(t, chapter(), api.Report{
		East: span(0, 1000), North: exactly(0),
		Fit: []api.Span{exactly(1000), exactly(1000)}, Loads: []api.Span{exactly(120000), exactly(0)}, Ready: []uint8{api.KnownYes, api.KnownYes},
		Wells: []api.Span{span(56000, 72000)}, Counts: []api.Span{exactly(2)}, Shares: list(100),
	})
	wantTold(t, busy(), api.Report{
		East: span(0, 900), North: exactly(0),
		Fit: []api.Span{exactly(1000), exactly(1000), span(900, 1000)},
		// A slab that does not break, another one, and a skin that lost 2,000 to 2,400.
		Loads: []api.Span{exactly(120000), exactly(0), span(80000+27600, 82000+28000)}, Ready: []uint8{api.KnownYes, api.KnownYes, api.KnownYes},
		// 1,000 were drawn from the first one; of the second one at most 500 and 60 were left.
		Wells: []api.Span{span(55000, 71000), span(0, 600+60-300)}, Counts: []api.Span{exactly(2), exactly(3), span(2, 3)},
		// 30 less two rials a day for 97 days.
		Shares: list(100-164, 194),
	})
	// Uneven and heavy loads, animals that are not fit, and one that may or may not go.
	c := busy()
	c.Ties = []api.Tied{tied(list(0), list(2), nil), tied(list(1), nil, list(5)), tied(nil, list(3), list(4))}
	c.Camels[2].Water = span(20000, 30000)
	c.Bound = 40500
	wantTold(t, c, api.Report{
		East: span(0, 900), North: exactly(0),
		Fit:   []api.Span{exactly(1000), exactly(1000), span(400, 600)},
		Loads: []api.Span{span(100000, 101000), exactly(61000), span(40000+27600, 41000+28000)},
		Ready: []uint8{api.KnownYes, api.KnownNo, api.KnownOpen},
		Wells: []api.Span{span(55000, 71000), span(0, 360)}, Counts: []api.Span{exactly(2), exactly(3), span(2, 3)}, Shares: list(-64, 194),
	})
}
