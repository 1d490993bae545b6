package leader_test

import (
	"cmp"
	"math"
	"math/rand/v2"
	"reflect"
	"slices"
	"strings"
	"testing"
	"time"

	"azalai/api"
	"azalai/leader"
)

// The signatures of the chapter.
var (
	_ func(c api.Company) api.Errno                                                             = leader.Check
	_ func(c api.Company, word string, args []int) (next api.Company, said string, e api.Errno) = leader.Do
	_ func(c api.Company, log []api.Entry) (next api.Company, at int, said string, e api.Errno) = leader.Replay
	_ func(c api.Company, b api.Book) (next api.Company, at int, said string, e api.Errno)      = leader.Enter
	_ func(c api.Company) (api.Report, api.Errno)                                               = leader.Tell
	_ func(b api.Book) (string, api.Errno)                                                      = leader.WriteBook
	_ func(text string) (b api.Book, line int, e api.Errno)                                     = leader.ReadBook
	_ func(log []api.Entry) (string, api.Errno)                                                 = leader.WriteLog
	_ func(text string) (log []api.Entry, line int, e api.Errno)                                = leader.ReadLog
)

// call is all that the functions are called with.
type call struct {
	c    api.Company
	word string
	args []int
	log  []api.Entry
	b    api.Book
	text string
}

// outcome is the error of a call, and whether all other results are zero, but for a place and a reason.
type outcome struct {
	e    api.Errno
	zero bool
	at   int
	said string
}

var (
	ofCompanies = []string{"Check", "Do", "Replay", "Enter", "Tell"}
	all         = slices.Concat(ofCompanies, []string{"WriteBook", "ReadBook", "WriteLog", "ReadLog"})
)

func isZero(c api.Company) bool { return shown(c) == shown(api.Company{}) }

// outcomes calls all functions.
func (x call) outcomes() map[string]outcome {
	done, doneSaid, doneE := leader.Do(x.c, x.word, x.args)
	replayed, replayedAt, replayedSaid, replayedE := leader.Replay(x.c, x.log)
	entered, enteredAt, enteredSaid, enteredE := leader.Enter(x.c, x.b)
	told, toldE := leader.Tell(x.c)
	book, bookE := leader.WriteBook(x.b)
	readBook, bookLine, readBookE := leader.ReadBook(x.text)
	log, logE := leader.WriteLog(x.log)
	readLog, logLine, readLogE := leader.ReadLog(x.text)
	return map[string]outcome{
		"Check":     {leader.Check(x.c), true, 0, ""},
		"Do":        {doneE, isZero(done), 0, doneSaid},
		"Replay":    {replayedE, isZero(replayed), replayedAt, replayedSaid},
		"Enter":     {enteredE, isZero(entered), enteredAt, enteredSaid},
		"Tell":      {toldE, shown(told) == shown(api.Report{}), 0, ""},
		"WriteBook": {bookE, book == "", 0, ""},
		"ReadBook":  {readBookE, shown(readBook) == shown(api.Book{}), bookLine, ""},
		"WriteLog":  {logE, log == "", 0, ""},
		"ReadLog":   {readLogE, len(readLog) == 0, logLine, ""},
	}
}

// R1, R2: of several errors of a command the first one.
func TestOrderOfErrors(t *testing.T) {
	type step struct {
		change func(x *call)
		want   string
	}
	args := func(n ...int) func(x *call) { return func(x *call) { x.args = n } }
	company := func(change func(c *api.Company)) func(x *call) { return func(x *call) { change(&x.c) } }
	// From nothing that is right to where the word and its numbers may be commands.
	start := func(word string) []step {
		return []step{
			{func(x *call) {}, "error 100"},
			{company(func(c *api.Company) { c.Bound = 9000 }), "error 101"},
			{func(x *call) { x.word = word }, "error 101"},
			{func(x *call) { x.args = slices.Repeat(list(1<<62), numbersOf(word)) }, "error 2"},
			{func(x *call) { x.args = slices.Repeat(list(-9), numbersOf(word)) }, "error 9"},
		}
	}
	emptied := company(func(c *api.Company) { c.Log = c.Log[:3] })
	for word, steps := range map[string][]step{
		"MARCH": {
			{emptied, "error 9"},
			{company(func(c *api.Company) { c.Day = 5 }), "error 8"},
			{args(10, 0, -1, 0, 0, 20, 20, 0, 0), "error 8"},
			{args(25, 0, 900000, 0, 0, 20, 20, 0, 0), "error 8"},
			{args(0, 0, 100000, 0, 0, 20, 20, 0, 0), "error 8"},
			{args(10, 0, 100000, 0, 0, 20, 20, 0, 0), "error 9"},
			{company(func(c *api.Company) { c.Packs[5].Days = 0 }), "error 102 weak 0"},
			{company(func(c *api.Company) { c.Ties[0].Left = list(0) }), "error 102 weak 2"},
			{company(func(c *api.Company) { c.Ties[2].Right = list(3) }), "error 102 dies 1"},
			{company(func(c *api.Company) { c.Camels[1].Water = exactly(5000) }), "error 102 dies 2"},
			{company(func(c *api.Company) { c.Ties[2], c.Camels[2].Water = api.Tied{}, exactly(5000) }), "error 9"},
			{args(10, 0, 1000, 0, 0, 20, 20, 0, 0), ""},
		},
		"REST": {
			{emptied, "error 9"},
			{company(func(c *api.Company) { c.Day = 5 }), "error 8"},
			{args(20, 20, 0, 0), "error 9"},
			{company(func(c *api.Company) { c.Packs[5].Days = 0 }), "error 102 dies 1"},
			{company(func(c *api.Company) { c.Camels[1].Water = exactly(5000) }), "error 102 dies 2"},
			{company(func(c *api.Company) { c.Camels[2].Water = exactly(5000) }), ""},
		},
		"MARK": {
			{emptied, "error 8"},
			{args(500, 1000, -1, 1, 0, 1), "error 8"},
			{args(500, -1000, 0, 1, -1, 1), "error 9"},
			{company(func(c *api.Company) { c.Area.Halves = c.Area.Halves[:9] }), "error 102 lost"},
			{args(500, 1000, 0, 1, -1, 1), ""},
		},
		"STAR": {
			{args(9, 5), "error 9"},
			{emptied, "error 8"},
			{args(5, 9), "error 9"},
			{company(func(c *api.Company) { c.Area.Halves = c.Area.Halves[:38] }), "error 102 lost"},
			{args(0, 9), ""},
		},
		"NEAR": {
			{emptied, "error 8"},
			{args(5, 5, 4), "error 9"},
			{company(func(c *api.Company) { c.Area.Halves = c.Area.Halves[:36] }), "error 102 lost"},
			{args(5, 5, 5), ""},
		},
		"DRINK": {
			{emptied, "error 8"},
			{args(2), "error 8"},
			{args(1), "error 9"},
			{company(func(c *api.Company) { c.Draws = c.Draws[:199] }), "error 102 far"},
			{company(func(c *api.Company) { c.Land.Wells[1].X = 0 }), "error 102 dry"},
			{company(func(c *api.Company) { c.Land.Wells[1].Room, c.Land.Wells[1].Has = 300000, exactly(300000) }), ""},
		},
		"JOLT": {
			{emptied, "error 8"},
			{args(3, 70), "error 8"},
			{args(2, 100001), "error 8"},
			{args(2, 70), "error 9"},
			{company(func(c *api.Company) { c.Packs[2].Hurt = 0 }), ""},
		},
		"SETTLE": {
			{emptied, "error 8"},
			{args(3), "error 8"},
			{args(0), "error 102 uneven"},
			{args(1), ""},
		},
		"ROW": {
			{args(1, 0, 0, 0, 0, 0, 0, 0, 0, 0, 0, 0, 9, 9), "error 9"},
			{emptied, "error 9"},
			{company(func(c *api.Company) { c.Rows = c.Rows[:39] }), "error 8"},
			{args(0, 0, 0, 0, 0, 0, 0, 0, 0, 0, 0, 0, 9, 9), "error 102 tally"},
			{args(0, 0, 0, 0, 0, 0, 0, 0, 0, 0, 0, 0, 2, 2), ""},
		},
		"LETTER": {
			{args(1, 5, 1, 9, 0, 0, 31, 2), "error 9"},
			{emptied, "error 9"},
			{company(func(c *api.Company) { c.Letters = c.Letters[:99] }), "error 8"},
			{args(1, 5, 1, 9, 0, 0, 31, 0), "error 8"},
			{args(1, 5, 1, 0, 0, 0, 31, 0), "error 102 two"},
			{args(1, 5, 1, 0, 0, 0, 30, 0), ""},
		},
	} {
		x := worst()
		for i, step := range append(start(word), steps...) {
			step.change(&x)
			got := x.outcomes()["Do"]
			want := strings.TrimSuffix(got.e.Error()+" "+got.said, " ")
			if got.e == api.OK {
				want = ""
			}
			if want != step.want || got.zero != (got.e != api.OK) {
				t.Error(word, i, want, got.zero, "want", step.want)
			}
		}
	}
}

// worst is a call in which nothing is right.
func worst() call {
	c := busy()
	c.Bound, c.Day = -1, 99999
	c.Log = slices.Repeat(c.Log[:1], 200)
	c.Area = area(span(0, 1000), exactly(0))
	c.Area.Halves = append(c.Area.Halves, api.Half{A: 1000, C: 99999000000})
	c.Area.Halves = append(c.Area.Halves, slices.Repeat([]api.Half{{A: 1, C: 1000}}, 35)...)
	c.Draws = slices.Repeat([]api.Draw{draw(0, 5, 0)}, 200)
	c.Packs[5].Days, c.Packs[5].Mass = 100000, exactly(100000)
	c.Packs[2].Hurt = 6000000
	c.Camels[1].Water, c.Camels[2].Water = exactly(0), exactly(4999)
	c.Breed.Strong = exactly(1000000)
	c.Land.Wells[1].X = 5000
	c.Ties[0].Left, c.Ties[2] = list(0, 5), tied(list(2), nil, nil)
	c.Rows = slices.Repeat([]api.Row{{Count: exactly(2)}}, 40)
	c.Letters = slices.Repeat(letters(sold(1, 5, 30)), 100)
	return call{c: c, word: "MOVE", args: slices.Repeat(list(1<<62), 20)}
}

// R1, R2: the other functions return ErrCompany first, then the errors of their other arguments; those without a company do not ask for one.
func TestOrderOfOtherErrors(t *testing.T) {
	x := call{
		c: worst().c, word: "DRINK", args: list(0), log: []api.Entry{done(99, "DRINK 7")}, text: strings.Repeat("x", 30001),
		b: api.Book{Rows: slices.Repeat([]api.Row{{Born: exactly(1000000000000), Died: exactly(1000000000000), Count: span(999999999999, 1000000000000)}}, 301)},
	}
	for i, step := range []struct {
		change func()
		want   map[string]outcome
	}{
		{func() {}, map[string]outcome{"Check": {e: api.ErrCompany}, "Do": {e: api.ErrCompany}, "Replay": {e: api.ErrCompany}, "Enter": {e: api.ErrCompany}, "Tell": {e: api.ErrCompany}, "WriteBook": {e: api.ErrArg}, "ReadBook": {e: api.ErrFull}, "WriteLog": {}, "ReadLog": {e: api.ErrFull}}},
		{func() { x.c = chapter() }, map[string]outcome{"Check": {}, "Do": {}, "Replay": {e: api.ErrBad}, "Enter": {e: api.ErrArg}, "Tell": {}, "WriteBook": {e: api.ErrArg}, "ReadBook": {e: api.ErrFull}}},
		{func() { x.b.Rows = x.b.Rows[:1] }, map[string]outcome{"Enter": {e: api.ErrBad}, "WriteBook": {}}},
		{func() { x.b.Rows = append([]api.Row{{Count: exactly(2)}}, slices.Repeat(x.b.Rows, 299)...) }, map[string]outcome{"Enter": {e: api.ErrBad, at: 1}, "WriteBook": {e: api.ErrFull}}},
		{func() { x.log[0].Args = list(0) }, map[string]outcome{"Replay": {e: api.ErrBad}}},
		{func() { x.log[0].Day = 5 }, map[string]outcome{"Replay": {}}},
		{func() { x.text = x.text[1:] }, map[string]outcome{"ReadBook": {e: api.ErrLine, at: 1}, "ReadLog": {e: api.ErrLine, at: 1}}},
		{func() { x.text = "E 0 8191\nx" }, map[string]outcome{"ReadBook": {e: api.ErrLine, at: 1}, "ReadLog": {e: api.ErrLine, at: 1}}},
		{func() { x.text = "E 0 8191\n" }, map[string]outcome{"ReadBook": {e: api.ErrCheck, at: 1}, "ReadLog": {e: api.ErrCheck, at: 1}}},
		{func() { x.text = ended() }, map[string]outcome{"ReadBook": {}, "ReadLog": {}}},
	} {
		step.change()
		got := x.outcomes()
		for name, want := range step.want {
			if g := got[name]; g.e != want.e || g.at != want.at || g.said != "" || want.e != api.OK && !g.zero {
				t.Error(i, name, g, "want", want)
			}
		}
	}
}

// each calls a function with all numbers of a value, in memory that can be changed.
func each(v reflect.Value, do func(v reflect.Value)) {
	switch v.Kind() {
	case reflect.Int, reflect.Uint8:
		do(v)
	case reflect.Struct:
		for i := range v.NumField() {
			each(v.Field(i), do)
		}
	case reflect.Slice:
		for i := range v.Len() {
			each(v.Index(i), do)
		}
	}
}

// copied returns a copy of a value in memory of its own, with so much memory behind the end of each list.
func copied[T any](v T, behind int) T {
	var deep func(v reflect.Value) reflect.Value
	deep = func(v reflect.Value) reflect.Value {
		next := reflect.New(v.Type()).Elem()
		next.Set(v)
		switch v.Kind() {
		case reflect.Struct:
			for i := range v.NumField() {
				next.Field(i).Set(deep(v.Field(i)))
			}
		case reflect.Slice:
			next.Set(reflect.MakeSlice(v.Type(), v.Len()+behind, v.Len()+behind))
			for i := range v.Len() {
				next.Index(i).Set(deep(v.Index(i)))
			}
			for i := range behind {
				each(next.Index(v.Len()+i), func(n reflect.Value) { n.Set(reflect.ValueOf(77).Convert(n.Type())) })
			}
			next.Set(next.Slice(0, v.Len()))
		}
		return next
	}
	return deep(reflect.ValueOf(v)).Interface().(T)
}

// lists calls a function with all lists of a value, with the memory behind their ends.
func lists(v reflect.Value, do func(l reflect.Value)) {
	switch v.Kind() {
	case reflect.Struct:
		for i := range v.NumField() {
			lists(v.Field(i), do)
		}
	case reflect.Slice:
		whole := v.Slice(0, v.Cap())
		do(whole)
		for i := range whole.Len() {
			lists(whole.Index(i), do)
		}
	}
}

// memory returns a text of all that is in a value, with the memory behind the ends of its lists.
func memory(v any) string {
	all := shown(v)
	lists(reflect.ValueOf(v), func(l reflect.Value) { all += shown(l.Interface()) })
	return all
}

// wantApart checks that no two lists of some values share memory.
func wantApart(t *testing.T, name string, values ...any) {
	t.Helper()
	type part struct{ from, to uintptr }
	var parts []part
	for _, v := range values {
		lists(reflect.ValueOf(v), func(l reflect.Value) {
			if size := l.Type().Elem().Size() * uintptr(l.Len()); size > 0 {
				parts = append(parts, part{l.Pointer(), l.Pointer() + size})
			}
		})
	}
	slices.SortFunc(parts, func(a, b part) int { return cmp.Compare(a.from, b.from) })
	for i := 1; i < len(parts); i++ {
		if parts[i].from < parts[i-1].to {
			t.Error(name, "shares memory")
		}
	}
}

// spoil overwrites all numbers of a value, with the memory behind the ends of its lists.
func spoil(v any) {
	lists(reflect.ValueOf(v), func(l reflect.Value) {
		each(l, func(n reflect.Value) { n.Set(reflect.ValueOf(77).Convert(n.Type())) })
	})
}

// spareCalls are calls of which all lists have memory behind their ends; all functions are right, or at least as far as they are not doubted.
func spareCalls() (calls []call) {
	for _, text := range valids {
		c := busy()
		c.Land.Wells[1] = api.Well{X: 0, Room: 200000, Has: exactly(150000)}
		c.Ties[1] = tied(list(5), nil, nil)
		x := call{c: c, b: api.Book{Rows: []api.Row{{Count: span(0, 9)}, {Count: span(0, 9)}}, Letters: append(slices.Clone(c.Letters), sold(30, 3, 3))}}
		x.word, x.args = command(text)
		x.log = []api.Entry{done(5, "SETTLE 0"), done(5, text), done(5, "STAR 0 50")}
		if x.word == "MARCH" || x.word == "REST" {
			x.log[1].Day, x.log[2].Day = 6, 6
		}
		x.c, x.b, x.log, x.args = copied(x.c, 3), copied(x.b, 3), copied(x.log, 3), copied(x.args, 3)
		calls = append(calls, x)
	}
	return calls
}

// R3: no argument is written to, nor what lies behind its end, also beside an error.
func TestArguments(t *testing.T) {
	for i, x := range spareCalls() {
		all := func(x call) string { return memory(x.c) + memory(x.args) + memory(x.log) + memory(x.b) }
		for k := range 4 {
			switch k {
			case 1:
				x.log[2].Args[0] = 700
				x.b.Letters[2].Rials = -1
			case 2:
				x.args[len(x.args)-1] = -1
			case 3:
				x.c.Bound = -1
			}
			before := all(x)
			if got := x.outcomes(); k == 0 && (got["Do"].e != api.OK || got["Replay"].e != api.OK || got["Enter"].e != api.OK) {
				t.Error(i, got)
			}
			if all(x) != before {
				t.Error(i, k, "an argument is written to")
			}
		}
	}
}

// R3: results share no memory with arguments, or with each other, and no call remembers another one.
func TestResults(t *testing.T) {
	for i, x := range spareCalls() {
		first := ""
		for k := range 3 {
			next, _, _ := leader.Do(x.c, x.word, x.args)
			replayed, _, _, _ := leader.Replay(x.c, x.log)
			nothing, _, _, _ := leader.Replay(x.c, nil)
			entered, _, _, _ := leader.Enter(x.c, x.b)
			told, _ := leader.Tell(x.c)
			bookText, _ := leader.WriteBook(x.b)
			book, _, _ := leader.ReadBook(bookText)
			logText, _ := leader.WriteLog(x.log)
			log, _, _ := leader.ReadLog(logText)
			all := shown(next) + shown(replayed) + shown(nothing) + shown(entered) + shown(told) + shown(book) + shown(log)
			if first == "" {
				first = all
			}
			if all != first {
				t.Error(i, k, "another call tells something else")
			}
			wantApart(t, x.word, x.c, x.args, x.log, x.b, next, replayed, nothing, entered, told, book, log)
			for _, v := range []any{next, replayed, nothing, entered, told, book, log} {
				spoil(v)
			}
			// What was so in the call before is not so in another one.
			leader.Do(chapter(), "DRINK", list(0))
			leader.Tell(crowd())
		}
	}
}

// R4: a nil list is an empty one.
func TestNil(t *testing.T) {
	empty := copied(chapter(), 0)
	if empty.Draws == nil || empty.Ties[1].Top == nil || chapter().Draws != nil {
		t.Fatal("the lists are the same")
	}
	for _, text := range valids {
		word, args := command(text)
		if word == "DRINK" {
			args = list(0)
		}
		want, said, e := leader.Do(chapter(), word, args)
		got, gotSaid, gotE := leader.Do(empty, word, args)
		if e != api.OK && e != api.ErrDoubt || shown(got) != shown(want) || gotSaid != said || gotE != e {
			t.Error(text, said, e, gotSaid, gotE)
		}
	}
	want, _ := leader.Tell(chapter())
	wantTold(t, empty, want)
	for _, b := range []api.Book{{}, {Rows: []api.Row{}, Letters: []api.Letter{}}} {
		wantEntered(t, empty, b, chapter(), stopped{})
		wantBook(t, b, ended())
	}
	for _, log := range [][]api.Entry{nil, {}} {
		wantReplayed(t, empty, log, chapter(), stopped{})
		wantLog(t, log, ended())
	}
	for _, args := range [][]int{nil, {}} {
		for _, word := range append(slices.Clone(allWords), "") {
			if next, said, e := leader.Do(empty, word, args); e != api.ErrWord || said != "" || !isZero(next) {
				t.Error(word, said, e)
			}
			if text, e := leader.WriteLog([]api.Entry{{Word: word, Args: args}}); text != "" || e != api.ErrArg {
				t.Error(word, text, e)
			}
		}
	}
	c := chapter()
	c.Land.Wells = []api.Well{}
	wantValid(t, "no wells", false, c)
	c = chapter()
	c.Camels, c.Ties = []api.Camel{}, []api.Tied{}
	wantValid(t, "no animals", false, c)
}

// edges are numbers at an edge of something, or far beyond it.
func edges(r *rand.Rand) int {
	n := []int{0, 1, 2, 3, 9, 24, 60, 255, 256, 1000, 9999, 100000, 1000000, 6000000, 10000000, 1000000000, 10000000000, 100000000000, 1000000000000, 1 << 31, 1 << 32, 1 << 62, math.MaxInt}[r.IntN(23)]
	n += r.IntN(3) - 1
	if r.IntN(2) == 0 {
		return -n
	}
	return n
}

// anyCall is a call in which now and then a number is any one.
func anyCall(r *rand.Rand) call {
	x := call{c: copied(someCompany(r), 0)}
	if r.IntN(3) == 0 {
		var numbers []reflect.Value
		each(reflect.ValueOf(&x.c).Elem(), func(v reflect.Value) { numbers = append(numbers, v) })
		for range 1 + r.IntN(2) {
			v := numbers[r.IntN(len(numbers))]
			v.Set(reflect.ValueOf(edges(r)).Convert(v.Type()))
		}
	}
	x.word, x.args = someCommand(r, x.c)
	for range r.IntN(4) {
		word, args := someCommand(r, x.c)
		day := x.c.Day + r.IntN(2)
		if word == "MARCH" || word == "REST" {
			day++
		}
		x.log = append(x.log, entry(day, word, args...))
	}
	for range r.IntN(3) {
		x.b.Rows = append(x.b.Rows, someRow(r))
		x.b.Letters = append(x.b.Letters, someLetter(r))
	}
	if r.IntN(2) == 0 {
		numbers := [][]int{x.args}
		for i := range x.log {
			numbers = append(numbers, x.log[i].Args)
		}
		if one := numbers[r.IntN(len(numbers))]; len(one) > 0 {
			one[r.IntN(len(one))] = edges(r)
		}
	}
	if len(x.b.Rows) > 0 && r.IntN(4) == 0 {
		x.b.Letters[0].Rials, x.b.Rows[0].Count.Hi = edges(r), edges(r)
	}
	x.text = ended(slices.Concat(linesOf(x.b), linesOfLog(x.log)[:len(x.log)*r.IntN(2)])...)
	if r.IntN(2) == 0 {
		x.text = ended(linesOfLog(x.log)...)
	}
	if r.IntN(2) == 0 {
		at := r.IntN(len(x.text))
		x.text = x.text[:at] + string([]byte{byte(r.IntN(256))}) + x.text[at+r.IntN(2):]
	}
	return x
}

// R5, R6, R7: any values lead to an end without a panic, to zero values beside an error, and to companies that are valid.
func TestAnyValue(t *testing.T) {
	r := rand.New(rand.NewPCG(10, 17))
	seen := map[string]int{}
	for range 15000 {
		x := anyCall(r)
		valid := leader.Check(x.c) == api.OK
		for name, got := range x.outcomes() {
			if got.e != api.OK && !got.zero || got.e == api.OK && (got.at != 0 || got.said != "") || (got.said != "") != (got.e == api.ErrDoubt) || got.at < 0 {
				t.Fatalf("%s %+v: %v", name, x, got)
			}
			if slices.Contains(ofCompanies, name) && (got.e == api.ErrCompany) == valid {
				t.Fatalf("%s %+v: %v", name, x, got)
			}
			seen[got.e.Error()]++
		}
		if !valid {
			continue
		}
		next, _, e := leader.Do(x.c, x.word, x.args)
		replayed, _, _, f := leader.Replay(x.c, x.log)
		entered, _, _, g := leader.Enter(x.c, x.b)
		if e == api.OK && leader.Check(next) != api.OK || f == api.OK && leader.Check(replayed) != api.OK || g == api.OK && leader.Check(entered) != api.OK {
			t.Fatalf("%+v leads to a company that is not valid", x)
		}
	}
	wantOften(t, seen, 30, "error 9")
	wantOften(t, seen, 100, "error 0", "error 2", "error 8", "error 100", "error 101", "error 102", "error 103", "error 104")
}

// R5, R6: companies with the greatest numbers there can be; nothing overflows unnoticed.
func TestGreatNumbers(t *testing.T) {
	c := crowd()
	c.Log, c.Draws, c.Letters, c.Rows = nil, nil, nil, nil
	c.Breed = api.Breed{Full: 1000000, Fed: 1000000, Rest: exactly(100000), Heat: exactly(0), Toil: exactly(10000), Burn: exactly(10000), Rub: exactly(100000), Milk: exactly(100000), Heal: 1000, Strong: exactly(1000000)}
	c.Camels = slices.Repeat([]api.Camel{{Water: exactly(1000000), Fat: exactly(1000000), Milks: true}}, 8)
	c.Packs = slices.Repeat([]api.Pack{bale(exactly(1000000))}, 16)
	for i := range 8 {
		c.Ties[i] = tied(nil, nil, list(i))
	}
	c.Area = area(exactly(10000000), exactly(-10000000))
	c.Area.Halves = append(c.Area.Halves, slices.Repeat([]api.Half{{A: 1000, B: -1000, C: 20000000000}}, 30)...)
	c.Land.Wells[0] = api.Well{X: 9999000, Y: -9999000, Yield: exactly(10000000), Room: 1000000000, Has: exactly(1000000000)}
	c.Bound, c.Day, c.First = 1000000000, 99990, exactly(100000)
	// Work of 24 hours with ten times 100,000 and the load: 264 times 10,000 is more than an animal has.
	wantDoubt(t, c, "MARCH 24 100000 100000 -100000 -100000 60 60 1000000 1000000", "dies 0")
	c.Breed.Toil, c.Breed.Burn = exactly(1000), exactly(3000)
	next := wantDone(t, c, "MARCH 24 100000 100000 -100000 -100000 60 60 1000000 1000000", func(c *api.Company) {
		c.Day = 99991
		c.Area.Halves = []api.Half{{A: 1, C: 10100000}, {A: -1, C: -10100000}, {B: 1, C: -10100000}, {B: -1, C: 10100000}}
		c.Area.Halves = append(c.Area.Halves, slices.Repeat([]api.Half{{A: 1000, B: -1000, C: 20200000000}}, 30)...)
		c.Camels = slices.Repeat([]api.Camel{{Water: exactly(1000000 - 200000 - 264000), Fat: exactly(1000000), Sore: exactly(1000), Milks: true}}, 8)
		c.Packs = slices.Clone(c.Packs)
		for i := range c.Packs {
			c.Packs[i].Days = 1
		}
	})
	wantDoubt(t, next, "MARCH 24 0 0 0 0 60 60 0 0", "weak 0")
	wantDoubt(t, next, "DRINK 0", "far")
	wantDone(t, c, "DRINK 0", func(c *api.Company) { c.Draws = []api.Draw{draw(0, 99990, 0)} })
	wantDone(t, c, "ROW 100000 100000 100000 100000 100000 100000 100000 100000 100000 100000 100000 100000 100000 100000", func(c *api.Company) {
		c.Rows = []api.Row{{Born: exactly(100000), Bought: exactly(100000), Found: exactly(100000), Died: exactly(100000), Sold: exactly(100000), Strayed: exactly(100000), Count: exactly(100000)}}
	})
	wantDone(t, c, "SETTLE 7", func(c *api.Company) {})
}

// R7: each call ends, also with as much as there can be, and with more.
func TestEnds(t *testing.T) {
	start := time.Now()
	c := crowd()
	c.Log = nil
	log := slices.Repeat([]api.Entry{done(5, "SETTLE 0"), done(5, "JOLT 0 0")}, 100)
	next, _, _, e := leader.Replay(c, log)
	if e != api.OK || len(next.Log) != 200 {
		t.Fatal(e, len(next.Log))
	}
	wantEntered(t, next, api.Book{Letters: slices.Repeat(c.Letters, 3)}, next, stopped{})
	if _, e := leader.Tell(next); e != api.OK {
		t.Fatal(e)
	}
	// Ten packs on an animal, which cannot be balanced.
	for i := range c.Packs {
		c.Packs[i].Mass = exactly(1<<i%1000000 + 1)
	}
	c.Ties[3] = tied(list(0, 1, 2, 3, 4), list(5, 6, 7, 8, 9), nil)
	wantDoubt(t, c, "SETTLE 3", "uneven")
	wantReplayed(t, chapter(), make([]api.Entry, 1000000), api.Company{}, stopped{0, "", api.ErrWord})
	wantEntered(t, chapter(), api.Book{Rows: make([]api.Row, 1000000), Letters: make([]api.Letter, 1000000)}, api.Company{}, stopped{0, "", api.ErrArg})
	if _, _, e := leader.Do(chapter(), "ROW", make([]int, 1000000)); e != api.ErrWord {
		t.Error(e)
	}
	if _, _, e := leader.Do(chapter(), strings.Repeat("ROW", 1000000), nil); e != api.ErrWord {
		t.Error(e)
	}
	if _, e := leader.WriteLog(make([]api.Entry, 1000000)); e != api.ErrArg {
		t.Error(e)
	}
	for _, ofLog := range []bool{false, true} {
		wantWrong(t, ofLog, strings.Repeat("E 0 854\n", 3750), 1, api.ErrLine)
		wantWrong(t, ofLog, strings.Repeat("9", 29999)+"\n", 1, api.ErrLine)
		wantWrong(t, ofLog, "R"+strings.Repeat(" 1", 14999)+"\n", 1, api.ErrLine)
		if _, _, e := leader.ReadBook(strings.Repeat("E 0 854\n", 1000000)); e != api.ErrFull {
			t.Error(e)
		}
	}
	if took := time.Since(start); took > 20*time.Second {
		t.Error(took)
	}
}
