package market

import (
	"slices"

	"azalai/api"
)

// trader is somebody on a journey: at which fair, what there is of each good, and what was lost on the roads before.
type trader struct {
	journey
	fair   int
	held   [api.MaxGoods]api.Span
	losses []api.Loss
}

// traderOf returns a trader at the first fair, with some stocks.
func traderOf(j journey, stocks []int) trader {
	t := trader{journey: j}
	for good := range api.MaxGoods {
		t.held[good] = api.Span{Lo: stocks[good], Hi: stocks[good]}
	}
	return t
}

// barter goes to the fair of a barter and does it, unless it has an error. Nothing overflows: MaxHeld times MaxRatio is below 2^63.
func (t *trader) barter(b api.Barter) api.Errno {
	if !inRange(b.Fair, t.fair, t.last()) || !slices.Contains(t.openAt(b.Fair), b.Offer) || !inRange(b.Times, 1, api.MaxHeld) {
		return api.ErrBarter
	}
	t.goTo(b.Fair)
	o := t.offers[b.Offer]
	give, get := &t.held[o.Give], &t.held[o.Get]
	given := product(b.Times, o.Units)
	got := api.Span{Lo: product(b.Times, o.For.Lo), Hi: product(b.Times, o.For.Hi)}
	switch {
	case given > give.Lo:
		return api.ErrShort
	case get.Hi+got.Hi > api.MaxHeld:
		return api.ErrFull
	}
	*give = api.Span{Lo: give.Lo - given, Hi: give.Hi - given}
	*get = api.Span{Lo: get.Lo + got.Lo, Hi: get.Hi + got.Hi}
	return api.OK
}

// goTo goes all roads to a fair.
func (t *trader) goTo(fair int) {
	for t.fair < fair {
		for good := range api.MaxGoods {
			t.carry(good)
		}
		t.fair++
	}
}

// carry takes what there is of a good along the next road.
func (t *trader) carry(good int) {
	n, keeps := t.held[good], t.fairs[t.fair].Keeps[good]
	t.held[good] = api.Span{Lo: left(n.Lo, keeps.Lo), Hi: left(n.Hi, keeps.Hi)}
	// Most is lost where least is kept.
	lost := api.Span{Lo: n.Lo - left(n.Lo, keeps.Hi), Hi: n.Hi - left(n.Hi, keeps.Lo)}
	if lost.Hi > 0 {
		t.losses = append(t.losses, api.Loss{Road: t.fair, Good: good, Units: lost})
	}
}
