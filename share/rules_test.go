package share_test

import (
	"math"
	"math/rand/v2"
	"slices"
	"testing"
	"time"

	"azalai/api"
	"azalai/share"
)

// The signatures of the chapter.
var (
	_ func(p api.Pact) api.Errno                                                     = share.Check
	_ func(p api.Pact, result int) ([]int, api.Errno)                                = share.Divide
	_ func(p api.Pact, l []api.Letter) (read []api.Letter, why []uint8, e api.Errno) = share.Read
	_ func(p api.Pact, l []api.Letter) ([]int, api.Errno)                            = share.Settle
	_ func(p api.Pact, l []api.Letter, who, other int) (int, api.Errno)              = share.Owed
	_ func(p api.Pact, l []api.Letter) ([]api.Span, api.Errno)                       = share.Surely
)

// R1, R2: of several errors the first one, with zero values.
func TestOrderOfErrors(t *testing.T) {
	pact, many, letters, two, mouth, arg := api.ErrPact, api.ErrMany, api.ErrLetters, api.ErrTwo, api.ErrMouth, api.ErrArg
	c := call{result: math.MaxInt, who: 1, other: 1}
	for id := range 98 {
		c.l = append(c.l, told(sold(id, 1, 5)))
	}
	c.l = append(c.l, sold(0, 1, 5), sold(1, 1, -5), sold(2, 1, 7))
	// One after the other is put right.
	for i, x := range []struct {
		change func()
		want   []api.Errno // of all, in their order
	}{
		{func() {}, []api.Errno{pact, pact, pact, pact, pact, pact}},
		{func() { c.p = valid().p }, []api.Errno{0, arg, many, many, many, many}},
		{func() { c.l = c.l[1:] }, []api.Errno{0, arg, letters, letters, letters, letters}},
		{func() { c.l[98].Rials = 5 }, []api.Errno{0, arg, two, two, two, two}},
		{func() { c.l = c.l[3:97] }, []api.Errno{0, arg, 0, 0, arg, mouth}},
		{func() { c.l = c.l[:6] }, []api.Errno{0, arg, 0, 0, arg, 0}},
		{func() { c.result, c.other = 1, 2 }, []api.Errno{0, 0, 0, 0, 0, 0}},
	} {
		x.change()
		got := c.outcomes()
		for k, name := range all {
			if got[name].e != x.want[k] || x.want[k] != api.OK && !got[name].zero {
				t.Error(i, name, got[name], "want", x.want[k])
			}
		}
	}
}

// edge returns a number that may be at an edge of a range, or far beyond it.
func edge(r *rand.Rand, least, most int) int {
	switch {
	case r.IntN(400) == 0:
		return []int{math.MinInt, -1 << 32, least - 1, most + 1, 1 << 32, 1 << 62, math.MaxInt}[r.IntN(7)]
	case r.IntN(10) == 0:
		return []int{least, most}[r.IntN(2)]
	}
	return least + r.IntN(most-least+1)
}

// anyCall is a call that is mostly valid, with numbers from all of their ranges.
func anyCall(r *rand.Rand) call {
	c := call{
		p:      api.Pact{Calf: edge(r, 0, 1000), Hire: edge(r, 0, 1000), Ends: edge(r, 0, 100000)},
		result: edge(r, -10000000000, 10000000000),
		who:    edge(r, 0, 9), other: edge(r, 0, 9),
	}
	left := 1000
	for id := range 1 + r.IntN(8) {
		part := r.IntN(left + 1)
		left -= part
		c.p.Partners = append(c.p.Partners, one(edge(r, id, id), edge(r, 0, 100000000), part))
	}
	c.p.Partners[0].Share += left
	partners := len(c.p.Partners)
	rare := 2 + r.IntN(20)
	for range r.IntN(40) {
		l := api.Letter{Id: edge(r, 0, 9999), Day: edge(r, 0, 100000), Kind: uint8(1 + r.IntN(8)), Mouth: r.IntN(rare) == 0}
		who := edge(r, 0, partners-1)
		animal := func() int { return edge(r, 0, 9999) % (1 + r.IntN(9999)) }
		switch l.Kind {
		case api.LetterLent:
			l.Who, l.Animal = who, animal()
		case api.LetterBack, api.LetterDead:
			l.Animal = animal()
		case api.LetterCalf:
			l.Animal, l.Other, l.Rials = animal(), animal(), edge(r, 0, 10000000)
		case api.LetterOwes, api.LetterPays:
			l.Who, l.Other, l.Rials = who, (max(0, who)+1+r.IntN(max(1, partners-1)))%partners, edge(r, 0, 10000000)
			if partners == 1 {
				l = sold(l.Id, l.Day, l.Rials)
			}
		default:
			l.Rials = edge(r, 0, 10000000)
		}
		if r.IntN(2000) == 0 {
			l.Kind = uint8(r.IntN(256))
		}
		c.l = append(c.l, slices.Repeat([]api.Letter{l}, 1+r.IntN(6)/5)...)
		if r.IntN(500) == 0 {
			c.l = append(c.l, with(l, func(l *api.Letter) { l.Mouth = !l.Mouth }))
		}
		if r.IntN(1000) == 0 {
			c.l = slices.Repeat(c.l, 8)
		}
	}
	return c
}

// R5, R6, R7: any values lead to an end without a panic, and to zero values beside an error.
func TestAnyValue(t *testing.T) {
	r := rand.New(rand.NewPCG(8, 17))
	seen := map[api.Errno]int{}
	for range 10000 {
		c := anyCall(r)
		for name, got := range c.outcomes() {
			if got.e != api.OK && !got.zero {
				t.Fatalf("%s %+v: %v", name, c, got)
			}
			seen[got.e]++
		}
	}
	for _, e := range []api.Errno{api.OK, api.ErrArg, api.ErrMany, api.ErrPact, api.ErrLetters, api.ErrTwo, api.ErrMouth} {
		if seen[e] < 50 {
			t.Error(e, seen)
		}
	}
}

// R4: a nil list is an empty one.
func TestNil(t *testing.T) {
	for _, l := range [][]api.Letter{nil, {}} {
		wantRead(t, pact(), l, nil, nil)
		wantSettled(t, pact(), l, 600, 300, 0)
		wantOwed(t, pact(), l, 1, 2, 0)
		wantSurely(t, pact(), l, span(600, 600), span(300, 300), span(0, 0))
	}
	for _, partners := range [][]api.Partner{nil, {}} {
		call{p: api.Pact{Partners: partners}}.wantErrors(t, api.ErrPact)
	}
}

// spare returns a list whose memory goes on behind its end.
func spare[T any](l []T, behind T) []T {
	return append(slices.Clone(l), slices.Repeat([]T{behind}, 20)...)[:len(l)]
}

// whole returns a copy of a list and of the memory behind its end that spare made.
func whole[T any](l []T) []T { return slices.Clone(l[:len(l)+20]) }

// spareCall is a call with letters in no order, some of them twice, whose lists have memory behind their ends.
func spareCall() call {
	c := valid()
	c.l = slices.Concat(letters(told(sold(50, 99, 1)), pays(41, 9, 1, 2, 3), owes(40, 9, 1, 2, 5), told(sold(50, 99, 1))), c.l, letters(sold(1, 101, 3), c.l[0]))
	c.l = spare(c.l, sold(77, 7, 7))
	c.p.Partners = spare(c.p.Partners, one(7, 7, 7))
	return c
}

func same(a, b call) bool {
	return slices.Equal(whole(a.l), whole(b.l)) && slices.Equal(whole(a.p.Partners), whole(b.p.Partners))
}

// R3: no argument is written to, nor what lies behind its end.
func TestArguments(t *testing.T) {
	c := spareCall()
	c.wantErrors(t, api.OK)
	c.result = -7
	c.wantErrors(t, api.OK)
	if !same(c, spareCall()) {
		t.Errorf("an argument is written to: %+v", c)
	}
	// Nor beside an error.
	for _, l := range letters(sold(50, 99, 2), sold(51, 99, -2)) {
		d, e := spareCall(), spareCall()
		d.l[3], e.l[3] = l, l
		d.outcomes()
		if !same(d, e) {
			t.Errorf("an argument is written to: %+v", d)
		}
	}
}

// spoil overwrites a list with all its memory.
func spoil[T any](l []T, with T) {
	l = l[:cap(l)]
	for i := range l {
		l[i] = with
	}
}

// R3: results share no memory with arguments, and no call remembers another one.
func TestResults(t *testing.T) {
	// In order and each one once, as a result is.
	c := spareCall()
	c.l = spare(letters(owes(1, 1, 1, 2, 5), lent(2, 5, 3, 7), calf(3, 20, 7, 8, 101), told(sold(4, 20, 0))), sold(77, 7, 7))
	before := call{p: spareCall().p, l: spare(c.l, sold(77, 7, 7))}
	for range 3 {
		wantDivided(t, c.p, -100, -67, -33, 0)
		parts, _ := share.Divide(c.p, -100)
		spoil(parts, 77)
		wantRead(t, c.p, c.l, before.l, whys(0, 0, 0, 0))
		read, why, _ := share.Read(c.p, c.l)
		spoil(read, sold(77, 7, 7))
		spoil(why, 77)
		wantSettled(t, c.p, c.l, 600-93-5, 300-46+5, 190+50)
		has, _ := share.Settle(c.p, c.l)
		spoil(has, 77)
		wantSurely(t, c.p, c.l, span(502, 502), span(259, 259), span(240, 240))
		spans, _ := share.Surely(c.p, c.l)
		spoil(spans, span(77, 77))
		wantOwed(t, c.p, c.l, 1, 2, 5)
		// What was so in the call before is not so in another one.
		wantSettled(t, c.p, nil, 600, 300, 0)
		wantOwed(t, c.p, nil, 1, 2, 0)
	}
	if !same(c, before) {
		t.Errorf("an argument is written to: %+v", c)
	}
}

// R7: each call ends, also with as many letters as there can be.
func TestEnds(t *testing.T) {
	c := call{p: pact(), who: 1, other: 2}
	for id := range 100 {
		l := owes(99-id, 50, 1+id%2, 2-id%2, 1)
		l.Mouth = id%17 == 0
		c.l = append(c.l, l)
	}
	start := time.Now()
	for range 20 {
		wantSurely(t, c.p, c.l, span(597, 603), span(297, 303), span(0, 0))
	}
	if took := time.Since(start); took > 20*time.Second {
		t.Error(took)
	}
}
