package leader_test

import (
	"fmt"
	"math"
	"slices"
	"strings"
	"testing"

	"azalai/api"
	"azalai/guide"
	"azalai/leader"
)

func span(lo, hi int) api.Span { return api.Span{Lo: lo, Hi: hi} }

func exactly(n int) api.Span { return span(n, n) }

// list are numbers.
func list(l ...int) []int { return l }

func letters(l ...api.Letter) []api.Letter { return l }

func sold(id, day, rials int) api.Letter {
	return api.Letter{Id: id, Day: day, Kind: api.LetterSold, Rials: rials}
}

func draw(well, day, water int) api.Draw { return api.Draw{Well: well, Day: day, Water: water} }

func entry(day int, word string, args ...int) api.Entry {
	return api.Entry{Day: day, Word: word, Args: args}
}

func bale(mass api.Span) api.Pack { return api.Pack{Kind: api.PackBale, Mass: mass} }

func tied(left, right, top []int) api.Tied { return api.Tied{Left: left, Right: right, Top: top} }

// area is that of all places in two spans.
func area(east, north api.Span) api.Area {
	a, e := guide.Start(east, north)
	if e != api.OK {
		panic(e)
	}
	return a
}

// around are numbers at the edges of a range, and far beyond them, with whether they are in it.
func around(least, most int) map[int]bool {
	in := map[int]bool{}
	for _, n := range list(least-1, most+1, least, most, least+1<<40, least-1<<40, 1<<62, math.MinInt, math.MaxInt) {
		in[n] = least <= n && n <= most
	}
	return in
}

// shown returns a text of any value, in which a nil list is as an empty one.
func shown(v any) string { return fmt.Sprintf("%+v", v) }

// command is a word with its numbers.
func command(text string) (word string, args []int) {
	var rest string
	word, rest, _ = strings.Cut(text, " ")
	for _, number := range strings.Fields(rest) {
		n := 0
		if _, e := fmt.Sscan(number, &n); e != nil {
			panic(e)
		}
		args = append(args, n)
	}
	return word, args
}

// done returns a log entry of a command.
func done(day int, text string) api.Entry {
	word, args := command(text)
	return entry(day, word, args...)
}

// chapter is the company of the chapter's examples.
func chapter() api.Company {
	animal := api.Camel{Water: span(80000, 90000), Fat: exactly(50000)}
	return api.Company{
		Day:    5,
		Land:   api.Land{Wells: []api.Well{{X: 500, Yield: span(1000, 2000), Room: 100000, Has: span(50000, 60000)}}},
		Area:   area(span(0, 1000), exactly(0)),
		Breed:  api.Breed{Full: 100000, Fed: 50000, Rest: exactly(5000), Strong: exactly(200000)},
		Camels: []api.Camel{animal, animal},
		Packs:  []api.Pack{bale(exactly(60000)), bale(exactly(60000))},
		Ties:   []api.Tied{tied(list(0), list(1), nil), {}},
		First:  exactly(2),
		Pact:   api.Pact{Partners: []api.Partner{{Id: 7, Put: 100, Share: 1000}}},
	}
}

// changed returns the company of the chapter's examples that is changed.
func changed(change func(c *api.Company)) api.Company {
	c := chapter()
	if change != nil {
		change(&c)
	}
	return c
}

// wantDone checks that a command is done, and changes what is named, and nothing else; it returns the company after it.
func wantDone(t *testing.T, c api.Company, text string, change func(c *api.Company)) api.Company {
	t.Helper()
	word, args := command(text)
	next, said, e := leader.Do(c, word, args)
	want := c
	change(&want)
	want.Log = append(slices.Clone(c.Log), entry(want.Day, word, args...))
	if shown(next) != shown(want) || said != "" || e != api.OK {
		t.Errorf("%s: %q %v %+v\nwant %+v", text, said, e, next, want)
	}
	if e := leader.Check(next); e != api.OK {
		t.Errorf("%s: %v, %+v is not valid", text, e, next)
	}
	return next
}

// after returns the company after some commands that are done.
func after(t *testing.T, c api.Company, texts ...string) api.Company {
	t.Helper()
	for _, text := range texts {
		word, args := command(text)
		next, said, e := leader.Do(c, word, args)
		if e != api.OK {
			t.Fatalf("%s: %q %v by %+v", text, said, e, c)
		}
		c = next
	}
	return c
}

// wantRefused checks that a command is refused, and of the company nothing is returned.
func wantRefused(t *testing.T, c api.Company, text, said string, want api.Errno) {
	t.Helper()
	word, args := command(text)
	next, got, e := leader.Do(c, word, args)
	if shown(next) != shown(api.Company{}) || got != said || e != want {
		t.Errorf("%s: %q %v %+v, want %q %v", text, got, e, next, said, want)
	}
}

// wantDoubt checks that a command is refused with a reason.
func wantDoubt(t *testing.T, c api.Company, text, said string) {
	t.Helper()
	wantRefused(t, c, text, said, api.ErrDoubt)
}

// wantError checks that a command is done, or refused with an error without a reason.
func wantError(t *testing.T, c api.Company, text string, want api.Errno) {
	t.Helper()
	if want != api.OK {
		wantRefused(t, c, text, "", want)
		return
	}
	after(t, c, text)
}

func wantBounds(t *testing.T, c api.Company, east, north api.Span) {
	t.Helper()
	r, e := leader.Tell(c)
	if r.East != east || r.North != north || e != api.OK {
		t.Error(r, e, "want", east, north)
	}
}

// P10.1, P10.4: the chapter's examples.
func TestExamples(t *testing.T) {
	c := chapter()
	first := wantDone(t, c, "DRINK 0", func(c *api.Company) {
		c.Draws = []api.Draw{draw(0, 5, 40000)}
		full := api.Camel{Water: exactly(100000), Fat: exactly(50000)}
		c.Camels = []api.Camel{full, full}
	})
	wantDone(t, first, "DRINK 0", func(c *api.Company) { c.Draws = []api.Draw{draw(0, 5, 40000), draw(0, 5, 0)} })
	marched := wantDone(t, c, "MARCH 10 0 100 0 0 20 20 0 0", func(c *api.Company) {
		c.Day = 6
		c.Area = area(span(0, 1100), exactly(0))
		animal := api.Camel{Water: span(75000, 85000), Fat: exactly(50000)}
		c.Camels = []api.Camel{animal, animal}
		c.Packs = slices.Clone(c.Packs)
		c.Packs[0].Days, c.Packs[1].Days = 1, 1
	})
	wantBounds(t, marched, span(0, 1100), exactly(0))
	wantDoubt(t, c, "STAR 5 9", "lost")
	rowed := wantDone(t, c, "ROW 1 1 0 0 0 0 0 0 0 0 0 0 3 4", func(c *api.Company) { c.Rows = []api.Row{{Born: exactly(1), Count: span(3, 4)}} })
	if r, e := leader.Tell(rowed); shown(r.Counts) != shown([]api.Span{exactly(2), exactly(3)}) || e != api.OK {
		t.Error(r, e)
	}
	heard := wantDone(t, c, "LETTER 1 5 1 0 0 0 30 0", func(c *api.Company) { c.Letters = letters(sold(1, 5, 30)) })
	wantDoubt(t, heard, "LETTER 1 5 1 0 0 0 31 0", "two")
	// The texts of a book and of a log.
	if text, e := leader.WriteBook(api.Book{Letters: heard.Letters}); text != "L 1 5 1 0 0 0 30 0 6533\nE 1 6596\n" || e != api.OK {
		t.Errorf("%q %v", text, e)
	}
	if text, e := leader.WriteLog(first.Log); text != "D 5 DRINK 0 6821\nE 1 999\n" || e != api.OK {
		t.Errorf("%q %v", text, e)
	}
}
