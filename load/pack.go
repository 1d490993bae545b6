package load

import (
	"slices"

	"azalai/api"
)

// kind is what packs of a kind are like: which ones are valid, and what is lost of one with a mass that is known, rounded down and up.
type kind struct {
	valid func(api.Pack) bool
	lost  func(p api.Pack, mass int) api.Span
}

func kinds() map[uint8]kind {
	return map[uint8]kind{
		api.PackSlab: {validSlab, crumbled},
		api.PackBale: {validBale, kept},
		api.PackSkin: {validSkin, leaked},
	}
}

func validPacks(packs []api.Pack) bool {
	return len(packs) <= api.MaxPacks && all(packs, validPack)
}

func validPack(p api.Pack) bool {
	k, ok := kinds()[p.Kind]
	return ok && k.valid(p) && validSpan(p.Mass, 0, api.MaxPack) &&
		inRange(p.Hurt, 0, api.MaxHurt*api.MaxJolts) && inRange(p.Days, 0, api.MaxDay)
}

func validSlab(p api.Pack) bool {
	return validSpan(p.Hard, 1, api.MaxHurt) && validSpan(p.Crumbs, 0, api.Whole) && p.Leak == api.Span{}
}

func validBale(p api.Pack) bool {
	return p.Hard == api.Span{} && p.Crumbs == api.Span{} && p.Leak == api.Span{}
}

func validSkin(p api.Pack) bool {
	return p.Hard == api.Span{} && p.Crumbs == api.Span{} && validSpan(p.Leak, 0, api.MaxPack)
}

// breaks returns what is known of whether a pack is a slab that breaks.
func breaks(p api.Pack) uint8 {
	switch {
	case p.Kind != api.PackSlab || p.Hurt < p.Hard.Lo:
		return api.KnownNo
	case p.Hurt < p.Hard.Hi:
		return api.KnownOpen
	}
	return api.KnownYes
}

func crumbled(p api.Pack, mass int) api.Span {
	lost := api.Span{Lo: mass * p.Crumbs.Lo / api.Whole, Hi: (mass*p.Crumbs.Hi + api.Whole - 1) / api.Whole}
	switch breaks(p) {
	case api.KnownNo:
		return api.Span{}
	case api.KnownOpen:
		lost.Lo = 0
	}
	return lost
}

func kept(api.Pack, int) api.Span { return api.Span{} }

func leaked(p api.Pack, mass int) api.Span {
	return api.Span{Lo: min(mass, p.Days*p.Leak.Lo), Hi: min(mass, p.Days*p.Leak.Hi)}
}

// parted returns what is left of a valid pack, and lost. Of a greater mass no less is left, and no less lost, of each kind: so the ends of both come from the ends of the mass.
func parted(p api.Pack) (left, lost api.Span) {
	of := kinds()[p.Kind].lost
	least, most := of(p, p.Mass.Lo), of(p, p.Mass.Hi)
	left = api.Span{Lo: p.Mass.Lo - least.Hi, Hi: p.Mass.Hi - most.Lo}
	return left, api.Span{Lo: least.Lo, Hi: most.Hi}
}

// restsOf returns what is left of each of some packs.
func restsOf(packs []api.Pack) []api.Span {
	rests := make([]api.Span, len(packs))
	for i, p := range packs {
		rests[i], _ = parted(p)
	}
	return rests
}

// jolted returns packs after some jolts and days; they may have become too many for a pack.
func jolted(packs []api.Pack, ties []api.Tied, jolts []api.Jolt, days int) []api.Pack {
	next := slices.Clone(packs)
	for i := range next {
		next[i].Days += days
	}
	for _, j := range jolts {
		hurts := [places]int{api.PlaceLeft: j.Hurt, api.PlaceRight: j.Hurt, api.PlaceTop: 2 * j.Hurt}
		for place, list := range listsOf(ties[j.Tie]) {
			for _, i := range list {
				next[i].Hurt += hurts[place]
			}
		}
	}
	return next
}
