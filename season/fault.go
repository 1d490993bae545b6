package season

import (
	"azalai/api"
	"azalai/way"
)

// fault is why a plan does not hold, and at which of its legs; that of a plan that holds is zero.
type fault struct {
	why uint8
	at  int
}

// require ends what faultOf does, unless something is so.
func require(so bool, why uint8, at int) {
	if !so {
		panic(fault{why, at})
	}
}

// faultOf does some work and returns the fault with which a panic ended it.
func faultOf(work func()) (f fault) {
	defer func() {
		if stopped := recover(); stopped != nil {
			f = stopped.(fault)
		}
	}()
	work()
	return fault{}
}

// faultIn returns why a plan does not hold, and in which scene first.
func faultIn(s api.Season, p api.Plan) (f fault, scene int) {
	stops, sure := stopsOf(s, p.Legs)
	if !sure {
		return fault{why: api.HoldsShut}, 0
	}
	if p.Animals == 0 {
		return fault{}, 0
	}
	for i, scene := range s.Scenes {
		if f := inScene(s, scene, stops, p.Slabs).fault(p.Animals); f.why != api.HoldsYes {
			return f, i
		}
	}
	return fault{}, 0
}

// stopsOf returns the stops of a way, and whether it is sure until the last day of the season.
func stopsOf(s api.Season, legs []int) ([]api.Stop, bool) {
	stops, _, e := way.Walk(s.Land, s.From, s.Day, s.Pace, legs)
	if e != api.OK {
		return nil, false
	}
	// Who arrives at the last stop in time does so at all others.
	for _, stop := range stops {
		if stop.Arrives.Hi > s.Until {
			return nil, false
		}
	}
	return stops, true
}
