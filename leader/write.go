package leader

import (
	"iter"
	"strconv"
	"strings"

	"azalai/api"
)

// The words with which lines begin.
const (
	lineRow    = "R"
	lineLetter = "L"
	lineDone   = "D"
	lineEnd    = "E"
)

// words returns a word and some numbers with single spaces between them.
func words(first string, numbers ...int) string {
	for _, n := range numbers {
		first += " " + strconv.Itoa(n)
	}
	return first
}

// checks returns a function that goes on with the check of a text by more of its bytes, and returns what it is then.
func checks() func(more string) int {
	check := 23
	return func(more string) int {
		for i := range len(more) {
			check = (check*37 + int(more[i])) % 8191
		}
		return check
	}
}

// linesOfBook yields the lines of a book, without their checks and the last one.
func linesOfBook(b api.Book) iter.Seq[string] {
	return func(yield func(string) bool) {
		for _, r := range b.Rows {
			if !yield(words(lineRow, numbersOfRow(r)...)) {
				return
			}
		}
		for _, l := range b.Letters {
			if !yield(words(lineLetter, numbersOfLetter(l)...)) {
				return
			}
		}
	}
}

// linesOfLog yields the lines of a log, without their checks and the last one.
func linesOfLog(log []api.Entry) iter.Seq[string] {
	return func(yield func(string) bool) {
		for _, e := range log {
			if !yield(words(lineDone, e.Day) + " " + words(e.Word, e.Args...)) {
				return
			}
		}
	}
}

// write returns the text of some lines, with their checks and the last one.
func write(lines iter.Seq[string]) (string, api.Errno) {
	var text strings.Builder
	goOn := checks()
	put := func(line string) {
		end := words("", goOn(line)) + "\n"
		goOn(end)
		text.WriteString(line + end)
	}
	count := 0
	for line := range lines {
		put(line)
		count++
	}
	put(words(lineEnd, count))
	if text.Len() > api.MaxText {
		return "", api.ErrFull
	}
	return text.String(), api.OK
}
