package share

import "azalai/api"

// countMouth returns how many letters were told by mouth.
func countMouth(l []api.Letter) int {
	count := 0
	for _, letter := range l {
		if letter.Mouth {
			count++
		}
	}
	return count
}

// believed returns letters without those that were told by mouth and are not in a set, bit by bit, the first one by the lowest bit.
func believed(l []api.Letter, set int) []api.Letter {
	var kept []api.Letter
	for i, letter := range l {
		if !letter.Mouth || set>>countMouth(l[:i])&1 == 1 {
			kept = append(kept, letter)
		}
	}
	return kept
}

// spans returns from what to what each partner has at last, whichever of the letters that were told by mouth are true.
func spans(p api.Pact, l []api.Letter) []api.Span {
	var spans []api.Span
	for _, has := range settled(p, l) {
		spans = append(spans, api.Span{Lo: has, Hi: has})
	}
	for set := range 1 << countMouth(l) {
		for i, has := range settled(p, believed(l, set)) {
			spans[i] = api.Span{Lo: min(spans[i].Lo, has), Hi: max(spans[i].Hi, has)}
		}
	}
	return spans
}
