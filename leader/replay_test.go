package leader_test

import (
	"slices"
	"testing"

	"azalai/api"
	"azalai/leader"
)

// stopped is what is told beside an error.
type stopped struct {
	at   int
	said string
	e    api.Errno
}

// wantReplayed checks that a log is replayed to a company, or where and why it is not.
func wantReplayed(t *testing.T, c api.Company, log []api.Entry, want api.Company, end stopped) {
	t.Helper()
	next, at, said, e := leader.Replay(c, log)
	if shown(next) != shown(want) || (stopped{at, said, e}) != end {
		t.Errorf("Replay %v: %v %q %v %+v, want %v %+v", log, at, said, e, next, end, want)
	}
}

// wantEntered checks that a book is entered, or where and why it is not.
func wantEntered(t *testing.T, c api.Company, b api.Book, want api.Company, end stopped) {
	t.Helper()
	next, at, said, e := leader.Enter(c, b)
	if shown(next) != shown(want) || (stopped{at, said, e}) != end {
		t.Errorf("Enter %v: %v %q %v %+v, want %v %+v", b, at, said, e, next, end, want)
	}
}

// P10.2: commands one after the other.
func TestReplay(t *testing.T) {
	c := chapter()
	texts := []string{"DRINK 0", "REST 20 20 0 0", "STAR 0 9", "MARCH 10 0 100 0 0 20 20 0 0", "JOLT 0 5", "SETTLE 0", "ROW 1 1 0 0 0 0 0 0 0 0 0 0 3 4", "LETTER 1 5 1 0 0 0 30 0", "LETTER 1 5 1 0 0 0 30 0"}
	want := after(t, c, texts...)
	var log []api.Entry
	for i, day := range list(5, 6, 6, 7, 7, 7, 7, 7, 7) {
		log = append(log, done(day, texts[i]))
	}
	wantReplayed(t, c, log, want, stopped{})
	if shown(want.Log) != shown(log) {
		t.Error(want.Log)
	}
	wantReplayed(t, c, nil, c, stopped{})
	wantReplayed(t, busy(), nil, busy(), stopped{})
	// The first entry that is refused, with its reason; what comes after it does not matter.
	other := func(at int, e api.Entry) []api.Entry {
		l := slices.Clone(log)
		l[at] = e
		return l
	}
	for i, x := range []struct {
		log  []api.Entry
		want stopped
	}{
		{other(0, done(5, "STAR 5 9")), stopped{0, "lost", api.ErrDoubt}},
		{other(2, done(6, "STAR 5 9")), stopped{2, "lost", api.ErrDoubt}},
		{other(2, done(7, "STAR 5 9")), stopped{2, "lost", api.ErrDoubt}},
		{other(2, done(6, "STAR 9 5")), stopped{2, "", api.ErrBad}},
		{other(3, done(7, "MARCH 1 0 0 0 0 20 60 0 0 1")), stopped{3, "", api.ErrWord}},
		{other(3, done(7, "GO")), stopped{3, "", api.ErrWord}},
		{other(8, done(7, "LETTER 1 5 1 0 0 0 31 0")), stopped{8, "two", api.ErrDoubt}},
		{other(8, done(7, "DRINK 1000000000001")), stopped{8, "", api.ErrArg}},
		// Or that leads to another day.
		{other(0, done(6, "DRINK 0")), stopped{0, "", api.ErrBad}},
		{other(1, done(5, "REST 20 20 0 0")), stopped{1, "", api.ErrBad}},
		{other(1, done(7, "REST 20 20 0 0")), stopped{1, "", api.ErrBad}},
		{other(8, done(-1<<62, "LETTER 1 5 1 0 0 0 30 0")), stopped{8, "", api.ErrBad}},
		{append(other(2, done(5, "STAR 0 9")), done(1, "GO")), stopped{2, "", api.ErrBad}},
	} {
		wantReplayed(t, c, x.log, api.Company{}, x.want)
		if t.Failed() {
			t.Fatal(i)
		}
	}
}

// P10.2: a log may be longer than that of a company, which is full then.
func TestReplayFull(t *testing.T) {
	c := busy()
	log := slices.Repeat([]api.Entry{done(5, "SETTLE 1")}, 300)
	wantReplayed(t, c, log, api.Company{}, stopped{197, "", api.ErrFull})
	next, _, _, e := leader.Replay(c, log[:197])
	if e != api.OK || len(next.Log) != 200 {
		t.Error(e, len(next.Log))
	}
	wantReplayed(t, next, log[:1], api.Company{}, stopped{0, "", api.ErrFull})
	wantReplayed(t, next, nil, next, stopped{})
}

// P10.3: rows, then letters, each with an entry, but for letters that the company has.
func TestEnter(t *testing.T) {
	c := busy()
	rows := []api.Row{{Born: exactly(1), Count: exactly(4)}, {Strayed: span(0, 4), Count: exactly(1)}}
	lends := api.Letter{Id: 4, Day: 2, Kind: api.LetterLent, Who: 7, Animal: 9, Mouth: true}
	b := api.Book{Rows: rows, Letters: letters(c.Letters[1], sold(3, 1, 7), c.Letters[0], lends, lends, sold(3, 1, 7))}
	want := after(t, c, "ROW 1 1 0 0 0 0 0 0 0 0 0 0 4 4", "ROW 0 0 0 0 0 0 0 0 0 0 0 4 1 1", "LETTER 3 1 1 0 0 0 7 0", "LETTER 4 2 3 7 0 9 0 1")
	if len(want.Log) != 7 || len(want.Letters) != 4 {
		t.Fatal(want)
	}
	wantEntered(t, c, b, want, stopped{})
	// It has all letters then; rows come once more.
	b.Rows = nil
	wantEntered(t, want, b, want, stopped{})
	wantEntered(t, c, api.Book{}, c, stopped{})
	wantEntered(t, c, api.Book{Letters: c.Letters}, c, stopped{})
	wantEntered(t, c, api.Book{Rows: rows[:1]}, after(t, c, "ROW 1 1 0 0 0 0 0 0 0 0 0 0 4 4"), stopped{})
	// What it has is left out also if its log is full, or its letters.
	c.Log = slices.Repeat(c.Log[:1], 200)
	wantEntered(t, c, api.Book{Letters: c.Letters}, c, stopped{})
	wantEntered(t, c, api.Book{Letters: letters(c.Letters[1], sold(3, 1, 7))}, api.Company{}, stopped{1, "", api.ErrFull})
	wantEntered(t, c, api.Book{Rows: rows, Letters: c.Letters}, api.Company{}, stopped{0, "", api.ErrFull})
	c = crowd()
	wantEntered(t, c, api.Book{Letters: slices.Repeat(c.Letters, 3)}, c, stopped{})
	c.Log = nil
	wantEntered(t, c, api.Book{Letters: letters(c.Letters[0], sold(2, 1, 7))}, api.Company{}, stopped{1, "", api.ErrFull})
	c.Letters = c.Letters[1:]
	wantEntered(t, c, api.Book{Letters: letters(c.Letters[0], sold(2, 1, 7))}, after(t, c, "LETTER 2 1 1 0 0 0 7 0"), stopped{})
}

// P10.3: the first line that is refused, with its reason.
func TestEnterRefused(t *testing.T) {
	c := busy()
	fits, wrong, lost := api.Row{Count: exactly(3)}, api.Row{Born: span(1, 0)}, api.Row{Count: exactly(9)}
	rows := func(l ...api.Row) []api.Row { return l }
	told := func(l api.Letter) api.Letter {
		l.Mouth = true
		return l
	}
	for i, x := range []struct {
		b    api.Book
		want stopped
	}{
		{api.Book{Rows: rows(wrong)}, stopped{0, "", api.ErrBad}},
		{api.Book{Rows: rows(fits, fits, wrong, lost), Letters: letters(sold(1, 1, 1))}, stopped{2, "", api.ErrBad}},
		{api.Book{Rows: rows(fits, lost, wrong), Letters: letters(sold(1, 1, 1))}, stopped{1, "tally", api.ErrDoubt}},
		{api.Book{Rows: slices.Repeat(rows(fits), 39)}, stopped{38, "", api.ErrFull}},
		{api.Book{Letters: letters(sold(1, 1, 1))}, stopped{0, "two", api.ErrDoubt}},
		{api.Book{Rows: rows(fits, fits), Letters: letters(c.Letters[0], sold(3, 1, 1), told(c.Letters[0]))}, stopped{4, "two", api.ErrDoubt}},
		{api.Book{Rows: rows(fits), Letters: letters(sold(3, 1, 1), sold(3, 1, 1), sold(3, 1, 2))}, stopped{3, "two", api.ErrDoubt}},
		{api.Book{Rows: rows(fits), Letters: letters(sold(3, 1, 1), sold(-3, 1, 1), sold(3, 1, 2))}, stopped{2, "", api.ErrBad}},
		{api.Book{Letters: letters(api.Letter{Id: 3, Kind: 255})}, stopped{0, "", api.ErrBad}},
	} {
		wantEntered(t, c, x.b, api.Company{}, x.want)
		if t.Failed() {
			t.Fatal(i)
		}
	}
}

// P10.3: a book that is not valid, also if its first line is refused.
func TestEnterInvalid(t *testing.T) {
	for i, change := range changesOfBooks {
		for n, ok := range around(-1000000000000, 1000000000000) {
			b := api.Book{Rows: []api.Row{{Born: span(1, 0)}}, Letters: letters(sold(-1, 0, 0))}
			change(&b, n)
			want := stopped{0, "", api.ErrBad}
			if !ok {
				want = stopped{0, "", api.ErrArg}
			}
			if next, at, said, e := leader.Enter(chapter(), b); (stopped{at, said, e}) != want || !isZero(next) {
				t.Error(i, n, at, said, e)
			}
		}
	}
	for _, lines := range [][2]int{{301, 0}, {0, 301}, {150, 151}, {300, 1}} {
		b := api.Book{Rows: make([]api.Row, lines[0]), Letters: make([]api.Letter, lines[1])}
		wantEntered(t, chapter(), b, api.Company{}, stopped{0, "", api.ErrArg})
	}
	for _, lines := range [][2]int{{300, 0}, {150, 150}} {
		b := api.Book{Rows: make([]api.Row, lines[0]), Letters: make([]api.Letter, lines[1])}
		wantEntered(t, chapter(), b, api.Company{}, stopped{0, "tally", api.ErrDoubt})
	}
	wantEntered(t, chapter(), api.Book{Letters: slices.Repeat(letters(sold(1, 1, 1)), 300)}, after(t, chapter(), "LETTER 1 1 1 0 0 0 1 0"), stopped{})
}

// changesOfBooks set one of the numbers of a book with a row and a letter.
var changesOfBooks = []func(b *api.Book, n int){
	func(b *api.Book, n int) { b.Rows[0].Born.Lo = n },
	func(b *api.Book, n int) { b.Rows[0].Born.Hi = n },
	func(b *api.Book, n int) { b.Rows[0].Bought.Lo = n },
	func(b *api.Book, n int) { b.Rows[0].Bought.Hi = n },
	func(b *api.Book, n int) { b.Rows[0].Found.Lo = n },
	func(b *api.Book, n int) { b.Rows[0].Found.Hi = n },
	func(b *api.Book, n int) { b.Rows[0].Died.Lo = n },
	func(b *api.Book, n int) { b.Rows[0].Died.Hi = n },
	func(b *api.Book, n int) { b.Rows[0].Sold.Lo = n },
	func(b *api.Book, n int) { b.Rows[0].Sold.Hi = n },
	func(b *api.Book, n int) { b.Rows[0].Strayed.Lo = n },
	func(b *api.Book, n int) { b.Rows[0].Strayed.Hi = n },
	func(b *api.Book, n int) { b.Rows[0].Count.Lo = n },
	func(b *api.Book, n int) { b.Rows[0].Count.Hi = n },
	func(b *api.Book, n int) { b.Letters[0].Id = n },
	func(b *api.Book, n int) { b.Letters[0].Day = n },
	func(b *api.Book, n int) { b.Letters[0].Who = n },
	func(b *api.Book, n int) { b.Letters[0].Other = n },
	func(b *api.Book, n int) { b.Letters[0].Animal = n },
	func(b *api.Book, n int) { b.Letters[0].Rials = n },
}
