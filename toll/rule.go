package toll

import (
	"iter"

	"azalai/api"
)

// rule is something that is in force on some days.
type rule interface{ days() api.Span }

type (
	claim  api.Claim
	feud   api.Feud
	border api.Border
)

func (c claim) days() api.Span { return api.Span{Lo: c.From, Hi: c.To} }

func (f feud) days() api.Span { return api.Span{Lo: f.From, Hi: f.To} }

func (b border) days() api.Span { return api.Span{Lo: b.From, Hi: b.To} }

func validDays(r rule) bool { return validSpan(r.days(), 0, api.MaxDay) }

func inForce(r rule, day int) bool { return inRange(day, r.days().Lo, r.days().Hi) }

// meet tells whether two rules are in force on the same day.
func meet(a, b rule) bool { return inForce(a, b.days().Lo) || inForce(b, a.days().Lo) }

// changes yields the first of some days, and each later one on which a rule comes into force, or is no longer so: all other days are like the one that was yielded before them.
func changes(days api.Span, rules []rule) iter.Seq[int] {
	return func(yield func(int) bool) {
		for day := days.Lo; day <= days.Hi; day = next(day, days.Hi, rules) {
			if !yield(day) {
				return
			}
		}
	}
}

// next returns the first day after another one on which something changes, or the day after the last one.
func next(day, last int, rules []rule) int {
	found := last + 1
	for _, r := range rules {
		for _, change := range [...]int{r.days().Lo, r.days().Hi + 1} {
			if change > day {
				found = least(found, change)
			}
		}
	}
	return found
}
