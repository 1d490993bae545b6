package leader_test

import (
	"fmt"
	"math/rand/v2"
	"slices"
	"strings"
	"testing"

	"azalai/api"
	"azalai/leader"
)

// check is that of bytes: 23 and each of them count 37 times for each byte after it.
func check(text string) int {
	sum, power := 0, 1
	for i := len(text) - 1; i >= 0; i-- {
		sum = (sum + int(text[i])*power) % 8191
		power = power * 37 % 8191
	}
	return (sum + 23*power) % 8191
}

// checked returns the text of lines, each with its check.
func checked(lines ...string) string {
	var text strings.Builder
	sum := 23
	put := func(part string) {
		for _, b := range []byte(part) {
			sum = (sum*37 + int(b)) % 8191
		}
		text.WriteString(part)
	}
	for _, line := range lines {
		put(line)
		put(fmt.Sprintf(" %d\n", sum))
	}
	return text.String()
}

// ended returns the text of lines, each with its check, and of the last one.
func ended(lines ...string) string {
	return checked(append(slices.Clone(lines), fmt.Sprint("E ", len(lines)))...)
}

// plain returns numbers with single spaces between them.
func plain(numbers ...any) string { return strings.TrimSuffix(fmt.Sprintln(numbers...), "\n") }

func rowLine(r api.Row) string {
	return plain("R", r.Born.Lo, r.Born.Hi, r.Bought.Lo, r.Bought.Hi, r.Found.Lo, r.Found.Hi, r.Died.Lo, r.Died.Hi, r.Sold.Lo, r.Sold.Hi, r.Strayed.Lo, r.Strayed.Hi, r.Count.Lo, r.Count.Hi)
}

func letterLine(l api.Letter) string {
	mouth := 0
	if l.Mouth {
		mouth = 1
	}
	return plain("L", l.Id, l.Day, l.Kind, l.Who, l.Other, l.Animal, l.Rials, mouth)
}

func linesOf(b api.Book) (lines []string) {
	for _, r := range b.Rows {
		lines = append(lines, rowLine(r))
	}
	for _, l := range b.Letters {
		lines = append(lines, letterLine(l))
	}
	return lines
}

func linesOfLog(log []api.Entry) (lines []string) {
	for _, e := range log {
		line := plain("D", e.Day, e.Word)
		for _, n := range e.Args {
			line += fmt.Sprint(" ", n)
		}
		lines = append(lines, line)
	}
	return lines
}

// wantBook checks that a book and a text are each other's.
func wantBook(t *testing.T, b api.Book, text string) {
	t.Helper()
	if got, e := leader.WriteBook(b); got != text || e != api.OK {
		t.Errorf("WriteBook %+v: %v\n%s, want\n%s", b, e, got, text)
	}
	if got, line, e := leader.ReadBook(text); shown(got) != shown(b) || line != 0 || e != api.OK {
		t.Errorf("ReadBook %s: %v %v %+v, want %+v", text, line, e, got, b)
	}
}

// wantLog checks that a log and a text are each other's.
func wantLog(t *testing.T, log []api.Entry, text string) {
	t.Helper()
	if got, e := leader.WriteLog(log); got != text || e != api.OK {
		t.Errorf("WriteLog %+v: %v\n%s, want\n%s", log, e, got, text)
	}
	if got, line, e := leader.ReadLog(text); shown(got) != shown(log) || line != 0 || e != api.OK {
		t.Errorf("ReadLog %s: %v %v %+v, want %+v", text, line, e, got, log)
	}
}

// wantWrong checks that of a text of a book, or of a log, a line is wrong.
func wantWrong(t *testing.T, ofLog bool, text string, line int, want api.Errno) {
	t.Helper()
	b, at, e := leader.ReadBook(text)
	zero := len(b.Rows) == 0 && len(b.Letters) == 0
	if ofLog {
		var log []api.Entry
		log, at, e = leader.ReadLog(text)
		zero = len(log) == 0
	}
	if at != line || e != want || !zero {
		t.Errorf("%q: %v %v, want %v %v", text, at, e, line, want)
	}
}

// P10.5, P10.6, P10.9: books and logs, and their texts.
func TestTexts(t *testing.T) {
	wantBook(t, api.Book{}, "E 0 "+fmt.Sprint(check("E 0"))+"\n")
	wantLog(t, nil, "E 0 "+fmt.Sprint(check("E 0"))+"\n")
	wantBook(t, api.Book{Letters: letters(sold(1, 5, 30))}, "L 1 5 1 0 0 0 30 0 6533\nE 1 6596\n")
	wantLog(t, []api.Entry{done(5, "DRINK 0")}, "D 5 DRINK 0 6821\nE 1 999\n")
	row := api.Row{Born: span(1, 2), Bought: span(3, 4), Found: span(5, 6), Died: span(7, 8), Sold: span(9, 10), Strayed: span(-11, -12), Count: span(1000000000000, -1000000000000)}
	letter := api.Letter{Id: -1, Day: 1000000000000, Kind: 255, Who: 7, Other: -1000000000000, Animal: 10, Rials: 0, Mouth: true}
	wantBook(t, api.Book{Rows: []api.Row{row, {}, row}, Letters: letters(letter, letter, api.Letter{})}, ended(
		"R 1 2 3 4 5 6 7 8 9 10 -11 -12 1000000000000 -1000000000000", "R 0 0 0 0 0 0 0 0 0 0 0 0 0 0", "R 1 2 3 4 5 6 7 8 9 10 -11 -12 1000000000000 -1000000000000",
		"L -1 1000000000000 255 7 -1000000000000 10 0 1", "L -1 1000000000000 255 7 -1000000000000 10 0 1", "L 0 0 0 0 0 0 0 0"))
	var log []api.Entry
	var lines []string
	for i, text := range valids {
		log = append(log, done(7*i*i-9, text))
		lines = append(lines, fmt.Sprint("D ", 7*i*i-9, " ", text))
	}
	log = append(log, entry(1000000000000, "STAR", -1000000000000, 1000000000000), entry(-1000000000000, "DRINK", -7))
	wantLog(t, log, ended(append(lines, "D 1000000000000 STAR -1000000000000 1000000000000", "D -1000000000000 DRINK -7")...))
}

// P10.5: books that are not valid, also if they would be too long.
func TestWriteBookInvalid(t *testing.T) {
	for i, change := range changesOfBooks {
		for n, ok := range around(-1000000000000, 1000000000000) {
			b := api.Book{Rows: make([]api.Row, 1), Letters: make([]api.Letter, 1)}
			change(&b, n)
			if !ok {
				if text, e := leader.WriteBook(b); text != "" || e != api.ErrArg {
					t.Error(i, n, text, e)
				}
				continue
			}
			wantBook(t, b, ended(linesOf(b)...))
		}
	}
	long := api.Row{Born: exactly(1000000000000), Bought: exactly(1000000000000), Found: exactly(1000000000000), Died: exactly(1000000000000), Sold: exactly(1000000000000), Strayed: exactly(1000000000000), Count: exactly(1000000000000)}
	for i, x := range []struct {
		rows []api.Row
		l    []api.Letter
		want api.Errno
	}{
		{make([]api.Row, 300), nil, api.OK},
		{nil, make([]api.Letter, 300), api.OK},
		{make([]api.Row, 100), make([]api.Letter, 200), api.OK},
		{make([]api.Row, 301), nil, api.ErrArg},
		{nil, make([]api.Letter, 301), api.ErrArg},
		{make([]api.Row, 101), make([]api.Letter, 200), api.ErrArg},
		{slices.Repeat([]api.Row{long}, 300), nil, api.ErrFull},
		{slices.Repeat([]api.Row{long}, 301), nil, api.ErrArg},
		{append(slices.Repeat([]api.Row{long}, 299), api.Row{Born: exactly(1000000000001)}), nil, api.ErrArg},
		{slices.Repeat([]api.Row{long}, 150), letters(sold(1, -1000000000001, 0)), api.ErrArg},
	} {
		if text, e := leader.WriteBook(api.Book{Rows: x.rows, Letters: x.l}); e != x.want || (text == "") != (e != api.OK) {
			t.Error(i, len(text), e)
		}
	}
}

// P10.5: logs that are not valid, also if they would be too long.
func TestWriteLogInvalid(t *testing.T) {
	for n, ok := range around(-1000000000000, 1000000000000) {
		for i, log := range [][]api.Entry{{entry(n, "DRINK", 0)}, {entry(0, "DRINK", 0), entry(0, "STAR", 0, n)}, {entry(0, "ROW", put(make([]int, 14), 7, n)...)}} {
			if !ok {
				if text, e := leader.WriteLog(log); text != "" || e != api.ErrArg {
					t.Error(i, n, text, e)
				}
				continue
			}
			wantLog(t, log, ended(linesOfLog(log)...))
		}
	}
	long := entry(1000000000000, "ROW", slices.Repeat(list(1000000000000), 14)...)
	for i, x := range []struct {
		log  []api.Entry
		want api.Errno
	}{
		{slices.Repeat([]api.Entry{done(0, "DRINK 0")}, 200), api.OK},
		{slices.Repeat([]api.Entry{done(0, "DRINK 0")}, 201), api.ErrArg},
		{slices.Repeat([]api.Entry{long}, 200), api.ErrFull},
		{slices.Repeat([]api.Entry{long}, 201), api.ErrArg},
		{append(slices.Repeat([]api.Entry{long}, 199), done(0, "GO")), api.ErrArg},
		{[]api.Entry{done(0, "DRINK")}, api.ErrArg},
		{[]api.Entry{done(0, "DRINK 0 0")}, api.ErrArg},
		{[]api.Entry{done(0, "DRINK 0"), entry(0, "drink", 0)}, api.ErrArg},
		{[]api.Entry{{}}, api.ErrArg},
		{[]api.Entry{entry(0, "DRINK 0", 0)}, api.ErrArg},
	} {
		if text, e := leader.WriteLog(x.log); e != x.want || (text == "") != (e != api.OK) {
			t.Error(i, len(text), e)
		}
	}
	for _, word := range allWords {
		for n := range 20 {
			want := api.ErrArg
			if n == numbersOf(word) {
				want = api.OK
			}
			if _, e := leader.WriteLog([]api.Entry{entry(0, word, make([]int, n)...)}); e != want {
				t.Error(word, n, e)
			}
		}
	}
}

// rowsOf returns a row for each of some lists of 14 numbers, and entriesOf an entry.
func rowsOf(numbers [][]int) (b api.Book) {
	for _, n := range numbers {
		b.Rows = append(b.Rows, api.Row{Born: span(n[0], n[1]), Bought: span(n[2], n[3]), Found: span(n[4], n[5]), Died: span(n[6], n[7]), Sold: span(n[8], n[9]), Strayed: span(n[10], n[11]), Count: span(n[12], n[13])})
	}
	return b
}

func entriesOf(numbers [][]int) (log []api.Entry) {
	for _, n := range numbers {
		log = append(log, entry(0, "ROW", n...))
	}
	return log
}

// long returns the numbers of lines of which the text is so long.
func long(r *rand.Rand, lines, bytes int, text func(numbers [][]int) string) [][]int {
	numbers := make([][]int, lines)
	for i := range numbers {
		numbers[i] = make([]int, 14)
	}
	// One digit more may be more bytes, or fewer, by the checks: then others are tried.
	for {
		missing := bytes - len(text(numbers))
		if missing == 0 {
			return numbers
		}
		for range max(1, missing/2) {
			n := &numbers[r.IntN(lines)][r.IntN(14)]
			if missing > 0 {
				*n = (10**n + 1 + r.IntN(9)) % 1000000000000
			} else {
				*n /= 10
			}
		}
	}
}

// P10.5, P10.6: texts of at most 30,000 bytes.
func TestLongTexts(t *testing.T) {
	r := rand.New(rand.NewPCG(10, 5))
	for bytes, full := range map[int]bool{29999: false, 30000: false, 30001: true, 30002: true} {
		b := rowsOf(long(r, 300, bytes, func(numbers [][]int) string { return ended(linesOf(rowsOf(numbers))...) }))
		log := entriesOf(long(r, 200, bytes, func(numbers [][]int) string { return ended(linesOfLog(entriesOf(numbers))...) }))
		ofBook, ofLog := ended(linesOf(b)...), ended(linesOfLog(log)...)
		if len(ofBook) != bytes || len(ofLog) != bytes {
			t.Fatal(len(ofBook), len(ofLog))
		}
		if !full {
			wantBook(t, b, ofBook)
			wantLog(t, log, ofLog)
			continue
		}
		if text, e := leader.WriteBook(b); text != "" || e != api.ErrFull {
			t.Error(bytes, e)
		}
		if text, e := leader.WriteLog(log); text != "" || e != api.ErrFull {
			t.Error(bytes, e)
		}
		for _, isLog := range []bool{false, true} {
			wantWrong(t, isLog, ofBook, 0, api.ErrFull)
			wantWrong(t, isLog, ofLog, 0, api.ErrFull)
		}
	}
	for _, isLog := range []bool{false, true} {
		for _, bytes := range []string{"x", "\n", " ", "\x00"} {
			wantWrong(t, isLog, strings.Repeat(bytes, 30000), 1, api.ErrLine)
			wantWrong(t, isLog, strings.Repeat(bytes, 30001), 0, api.ErrFull)
		}
		wantWrong(t, isLog, ended()+strings.Repeat("x", 30000), 0, api.ErrFull)
	}
}

// The lines of a book and of a log.
func sampleLines(ofLog bool) []string {
	if ofLog {
		return []string{"D 5 STAR -3 9", "D 5 DRINK 0", "D 6 REST 20 20 0 0", "D 6 JOLT 1 50"}
	}
	return []string{"R 1 2 3 4 5 6 7 8 9 10 11 12 13 14", "R 0 0 0 0 0 0 0 0 0 0 0 0 -3 3", "L 1 5 1 0 0 0 30 0", "L 2 6 255 7 8 9 10 1"}
}

// P10.6: lines that are none.
func TestWrongLines(t *testing.T) {
	wrong := map[bool][]string{
		false: {
			"R 1 2 3 4 5 6 7 8 9 10 11 12 13", "R 1 2 3 4 5 6 7 8 9 10 11 12 13 14 15", "R", "L", "L 1 5 1 0 0 0 30", "L 1 5 1 0 0 0 30 0 0", "L 1 5 256 0 0 0 30 0", "L 1 5 -1 0 0 0 30 0", "L 1 5 1 0 0 0 30 2", "L 1 5 1 0 0 0 30 -1",
			"r 1 2 3 4 5 6 7 8 9 10 11 12 13 14", "l 1 5 1 0 0 0 30 0", "D 5 DRINK 0", "ROW 1 2 3 4 5 6 7 8 9 10 11 12 13 14", "LETTER 1 5 1 0 0 0 30 0", "L 1 5 257 0 0 0 30 0",
			"L  1 5 1 0 0 0 30 0", "L 1 5 1 0 0 0 30 0 ", " L 1 5 1 0 0 0 30 0", "L 1 5 1 0 0 0  30 0", "L 1 5 1 0 0 0\t30 0", "L 1 5 1 0 0 0 30 0\r", "L 1 5 1 0 0 0 30 true", "\xffL 1 5 1 0 0 0 30 0", "L 1 5 1 0 0 0 30 0 #", "# L",
		},
		true: {
			"D 5 DRINK", "D 5 DRINK 0 0", "D DRINK 0", "D 5", "D", "D 5 GO 0", "D 5 drink 0", "d 5 DRINK 0", "D 5 STAR 0", "D 5 R 0", "D 5 DRINK,0", "D 5 ROW 1 2 3 4 5 6 7 8 9 10 11 12 13", "D 5 LETTER 1 5 1 0 0 0 30 0 0", "D 5 0 DRINK",
			"R 1 2 3 4 5 6 7 8 9 10 11 12 13 14", "L 1 5 1 0 0 0 30 0", "DRINK 0", "5 DRINK 0", "D  5 DRINK 0", "D 5  DRINK 0", "D 5 DRINK  0", "D 5 DRINK 0 ", " D 5 DRINK 0", "D 5 DRINK\t0", "D 5 DRINK 0\r", "D x DRINK 0", "D 5 DRINK x", "D 5 DRINK\x00 0",
		},
	}
	for _, n := range []string{"+1", "01", "-0", "00", "-01", "1.0", "0x1", "1e3", "1_0", "١", "--1", "-", "", "1-", "1000000000001", "-1000000000001", "9223372036854775807", "9223372036854775808", "-9223372036854775808", "-99999999999999999999", "18446744073709551617", "A", "'1'", "1,"} {
		wrong[false] = append(wrong[false], "L "+n+" 5 1 0 0 0 30 0", "L 1 "+n+" 1 0 0 0 30 0", "L 1 5 1 0 0 0 "+n+" 0", "R 1 2 3 4 5 6 7 8 9 10 11 12 13 "+n, "R "+n+" 2 3 4 5 6 7 8 9 10 11 12 13 14")
		wrong[true] = append(wrong[true], "D "+n+" DRINK 0", "D 5 DRINK "+n, "D 5 STAR "+n+" 7", "D 5 STAR 7 "+n)
		// "1" is right for the kind of a letter, and whether it was told by mouth, so this is not.
		wrong[false] = append(wrong[false], "L 1 5 "+n+" 0 0 0 30 0", "L 1 5 1 0 0 0 30 "+n)
	}
	for ofLog, all := range wrong {
		for _, line := range append(all, "", " ", "x", "E", "E ", "E 0 0", "E x", "e 0", "E +0", "E 00", "E -0", "E  0", "E 0 ", "E 1000000000001", "E -1000000000001", "EE 0", "F 0", "0", "0 0") {
			wantWrong(t, ofLog, checked(line), 1, api.ErrLine)
			wantWrong(t, ofLog, checked(line, "E 1"), 1, api.ErrLine)
			lines := sampleLines(ofLog)
			wantWrong(t, ofLog, checked(append(lines, line)...), 5, api.ErrLine)
			wantWrong(t, ofLog, checked(slices.Insert(slices.Clone(lines), 2, line)...), 3, api.ErrLine)
			wantWrong(t, ofLog, ended(slices.Insert(slices.Clone(lines), 3, line)...), 4, api.ErrLine)
			// Also with a check that is wrong, or none, or without a line feed.
			before := checked(lines...)
			wantWrong(t, ofLog, before+line+" 1\n", 5, api.ErrLine)
			wantWrong(t, ofLog, before+line, 5, api.ErrLine)
			wantWrong(t, ofLog, strings.TrimSuffix(checked(append(slices.Clone(lines), line)...), "\n"), 5, api.ErrLine)
		}
	}
}

// P10.6: checks, and numbers of lines, that are wrong, or are none.
func TestWrongChecks(t *testing.T) {
	for _, ofLog := range []bool{false, true} {
		lines := sampleLines(ofLog)
		all := append(slices.Clone(lines), "E 4")
		for at, line := range all {
			before, after := checked(all[:at]...), strings.TrimPrefix(checked(all...), checked(all[:at+1]...))
			right := check(before + line)
			for _, n := range list(right+1, right-1, right+8191, right-8191, -right-1, -1000000000000, 1000000000000, 8191, -1, right+1<<32) {
				wantWrong(t, ofLog, fmt.Sprintf("%s%s %d\n%s", before, line, n, after), at+1, api.ErrCheck)
				wantWrong(t, ofLog, fmt.Sprintf("%s%s %d\nx", before, line, n), at+1, map[bool]api.Errno{false: api.ErrCheck, true: api.ErrLine}[at == 4])
				wantWrong(t, ofLog, fmt.Sprintf("%s%s %d", before, line, n), at+1, api.ErrLine)
			}
			for _, n := range []string{"", "x", "0" + fmt.Sprint(right), "+" + fmt.Sprint(right), "-0", fmt.Sprint(right) + " ", " " + fmt.Sprint(right), fmt.Sprint(right) + "\r", "1000000000001", "-1000000000001", "99999999999999999999", fmt.Sprint(right) + ".", fmt.Sprint(right) + "\x00"} {
				wantWrong(t, ofLog, before+line+" "+n+"\n"+after, at+1, api.ErrLine)
			}
			// Its check is that of all that is before it, with the checks and line feeds of other lines.
			for _, part := range []string{line, strings.Join(all[:at+1], "\n"), strings.Join(all[:at+1], ""), before + line + " "} {
				if n := check(part); n != right {
					wantWrong(t, ofLog, fmt.Sprintf("%s%s %d\n%s", before, line, n, after), at+1, api.ErrCheck)
				}
			}
		}
		for _, n := range list(0, 3, 5, -4, 4+1<<32, 1000000000000, -1000000000000) {
			wantWrong(t, ofLog, checked(append(slices.Clone(lines), fmt.Sprint("E ", n))...), 5, api.ErrCheck)
		}
		wantWrong(t, ofLog, checked("E 1"), 1, api.ErrCheck)
		// The first line that is wrong, of whichever error.
		wantWrong(t, ofLog, lines[0]+" 8191\n"+"x\n", 1, api.ErrCheck)
		wantWrong(t, ofLog, "x\n"+lines[0]+" 8191\n", 1, api.ErrLine)
		wantWrong(t, ofLog, checked(lines...)+"E 0 8191\n", 5, api.ErrCheck)
	}
}

// P10.6: the last line is the only one with E, and there is one.
func TestEnd(t *testing.T) {
	for _, ofLog := range []bool{false, true} {
		lines := sampleLines(ofLog)
		for n := range len(lines) + 1 {
			wantWrong(t, ofLog, checked(lines[:n]...), n+1, api.ErrLine)
			whole := ended(lines[:n]...)
			wantWrong(t, ofLog, strings.TrimSuffix(whole, "\n"), n+1, api.ErrLine)
			// Whatever is after it, and whether it is right.
			for _, more := range []string{"\n", " ", "x", lines[0], whole, checked("E 1"), "E", "\x00"} {
				wantWrong(t, ofLog, whole+more, n+1, api.ErrLine)
				wantWrong(t, ofLog, checked(lines[:n]...)+"E 77 8191\n"+more, n+1, api.ErrLine)
			}
			twice := checked(append(slices.Clone(lines[:n]), fmt.Sprint("E ", n), fmt.Sprint("E ", n+1))...)
			wantWrong(t, ofLog, twice, n+1, api.ErrLine)
		}
	}
}

// P10.6: rows come before letters.
func TestRowsFirst(t *testing.T) {
	row, letter := sampleLines(false)[0], sampleLines(false)[2]
	wantWrong(t, false, ended(letter, row), 2, api.ErrLine)
	wantWrong(t, false, ended(row, letter, letter, row, letter), 4, api.ErrLine)
	wantWrong(t, false, checked(row, letter)+row+" 8191\n", 3, api.ErrLine)
	if b, line, e := leader.ReadBook(ended(row, row, letter, letter)); len(b.Rows) != 2 || len(b.Letters) != 2 || line != 0 || e != api.OK {
		t.Error(b, line, e)
	}
}

// P10.6: at most 300 lines of a book, and 200 of a log, without the last one.
func TestManyLines(t *testing.T) {
	row, letter := "R 0 0 0 0 0 0 0 0 0 0 0 0 0 0", "L 0 0 0 0 0 0 0 0"
	for _, lines := range [][]string{slices.Repeat([]string{row}, 300), slices.Repeat([]string{letter}, 300), slices.Concat(slices.Repeat([]string{row}, 120), slices.Repeat([]string{letter}, 180))} {
		if b, line, e := leader.ReadBook(ended(lines...)); len(b.Rows)+len(b.Letters) != 300 || line != 0 || e != api.OK {
			t.Error(line, e)
		}
		wantWrong(t, false, checked(lines...), 301, api.ErrLine)
		for _, more := range []string{row, letter} {
			wantWrong(t, false, ended(append(slices.Clone(lines), more)...), 301, api.ErrLine)
			wantWrong(t, false, checked(lines...)+more+" 8191\n", 301, api.ErrLine)
		}
		wantWrong(t, false, checked(lines...)+"E 299 5\n", 301, api.ErrCheck)
	}
	lines := slices.Repeat([]string{"D 0 DRINK 0"}, 200)
	if log, line, e := leader.ReadLog(ended(lines...)); len(log) != 200 || line != 0 || e != api.OK {
		t.Error(line, e)
	}
	wantWrong(t, true, ended(append(slices.Clone(lines), lines[0])...), 201, api.ErrLine)
	wantWrong(t, true, checked(lines...)+lines[0]+" 8191\n", 201, api.ErrLine)
	wantWrong(t, true, checked(lines...), 201, api.ErrLine)
	wantWrong(t, true, checked(lines...)+"E 199 5\n", 201, api.ErrCheck)
}

// P10.9, N10: a byte that is changed is seen; so is one that is left out, or it makes another text of the same check.
func TestBytes(t *testing.T) {
	for _, ofLog := range []bool{false, true} {
		text := ended(sampleLines(ofLog)...)
		read := func(text string) (rewritten string, e api.Errno) {
			if ofLog {
				log, _, e := leader.ReadLog(text)
				if e != api.OK {
					return "", e
				}
				return leader.WriteLog(log)
			}
			b, _, e := leader.ReadBook(text)
			if e != api.OK {
				return "", e
			}
			return leader.WriteBook(b)
		}
		if same, e := read(text); same != text || e != api.OK {
			t.Fatal(same, e)
		}
		for at := range len(text) {
			for b := range 256 {
				if other := text[:at] + string([]byte{byte(b)}) + text[at+1:]; other != text {
					if _, e := read(other); e != api.ErrLine && e != api.ErrCheck {
						t.Errorf("%q: %v", other, e)
					}
				}
			}
			other := text[:at] + text[at+1:]
			if same, e := read(other); e == api.OK && same != other {
				t.Errorf("%q: %q", other, same)
			}
		}
	}
}
