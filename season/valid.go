package season

import (
	"slices"

	"azalai/api"
	"azalai/camel"
	"azalai/way"
)

func validSeason(s api.Season) bool {
	switch {
	case way.Check(s.Land) != api.OK || !validSpan(s.Pace, 1, api.MaxPace):
		return false
	case camel.CheckCamel(s.Breed, s.Camel) != api.OK:
		return false
	case !inRange(s.Herd, 1, api.MaxTrain) || !inRange(s.Hours, 1, api.MaxHours):
		return false
	case !inRange(s.Slab, 1, api.MaxStrong) || !inRange(s.Cost, 0, api.MaxMoney) || !inRange(s.Sale, 0, api.MaxMoney):
		return false
	case !inRange(s.From, 0, len(s.Land.Wells)-1) || !inRange(s.Day, 0, s.Until) || s.Until > api.MaxDay:
		return false
	case !inRange(len(s.Scenes), 1, api.MaxScenes):
		return false
	}
	return !slices.ContainsFunc(s.Scenes, func(scene api.Scene) bool { return !validScene(scene, len(s.Land.Wells)) })
}

// validScene tells whether a scene is valid in a land of so many wells.
func validScene(s api.Scene, wells int) bool {
	if !validSpan(s.Heat, 0, api.MaxHeat) || !validSpan(s.Grass, 0, api.MaxStock) || len(s.Yields) != wells || len(s.Prices) != wells {
		return false
	}
	for well := range wells {
		if !validSpan(s.Yields[well], 0, api.MaxYield) || !inRange(s.Prices[well], 0, api.MaxMoney) {
			return false
		}
	}
	return true
}

func validPlan(s api.Season, p api.Plan) bool {
	_, isWay := visited(s, p.Legs)
	return isWay && inRange(p.Animals, 0, s.Herd) && inRange(p.Slabs, 0, api.MaxSlabs)
}

// visited returns the wells that one visits by some legs, from where the season begins on, and whether these are a way by which none is visited twice.
func visited(s api.Season, legs []int) (wells []int, isWay bool) {
	here := s.From
	wells = []int{here}
	for _, i := range legs {
		if !inRange(i, 0, len(s.Land.Legs)-1) {
			return nil, false
		}
		leg := s.Land.Legs[i]
		switch here {
		case leg.From:
			here = leg.To
		case leg.To:
			here = leg.From
		default:
			return nil, false
		}
		if slices.Contains(wells, here) {
			return nil, false
		}
		wells = append(wells, here)
	}
	return wells, true
}

// goalOf returns the last well of a way.
func goalOf(s api.Season, legs []int) int {
	wells, _ := visited(s, legs)
	return wells[len(wells)-1]
}

// checkPlan returns the error of a season and of a plan for it.
func checkPlan(s api.Season, p api.Plan) api.Errno {
	switch {
	case !validSeason(s):
		return api.ErrSeason
	case !validPlan(s, p):
		return api.ErrPlan
	}
	return api.OK
}

// checkHeld returns the error of a season and of a plan that has to hold in it.
func checkHeld(s api.Season, p api.Plan) api.Errno {
	if e := checkPlan(s, p); e != api.OK {
		return e
	}
	if f, _ := faultIn(s, p); f.why != api.HoldsYes {
		return api.ErrHold
	}
	return api.OK
}
