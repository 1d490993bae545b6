package leader

import (
	"iter"
	"strconv"
	"strings"

	"azalai/api"
)

// line is one of a text: its first word, those after it but the check, what its check is, and what it has to be; and whether it is the last one.
type line struct {
	kind       string
	words      []string
	check, due int
	last       bool
}

// linesOf yields the lines of a text.
func linesOf(text string) iter.Seq[line] {
	return func(yield func(line) bool) {
		goOn := checks()
		read := 0
		for bytes := range strings.Lines(text) {
			read += len(bytes)
			// Without a space there is no check, so it does not matter what it has to be.
			space := max(0, strings.LastIndex(bytes, " "))
			l := parted(bytes)
			l.due, l.last = goOn(bytes[:space]), read == len(text)
			goOn(bytes[space:])
			if !yield(l) {
				return
			}
		}
	}
}

// parted returns what a line is by its bytes alone. Without a line feed, a first word or a check it is none of any kind.
func parted(bytes string) line {
	bytes, fed := strings.CutSuffix(bytes, "\n")
	pieces := strings.Split(bytes, " ")
	end := len(pieces) - 1
	check, ok := numberIn(pieces[end])
	if !fed || !ok || end == 0 {
		return line{}
	}
	return line{kind: pieces[0], words: pieces[1:end], check: check}
}

// read reads a text, and gives all of its lines but the last one to a function that tells whether they are right; there are at most so many of them. It returns the first line that is wrong.
func read(text string, most int, takes func(line) bool) (at int, e api.Errno) {
	if len(text) > api.MaxText {
		return 0, api.ErrFull
	}
	before := 0
	for l := range linesOf(text) {
		count, ends := l.end()
		switch {
		case ends && !l.last, !ends && (before == most || !takes(l)):
			return before + 1, api.ErrLine
		case l.check != l.due, ends && count != before:
			return before + 1, api.ErrCheck
		case ends:
			return 0, api.OK
		}
		before++
	}
	return before + 1, api.ErrLine
}

// end returns how many lines are before the last one, by a line that is this one, and whether it is.
func (l line) end() (count int, ends bool) {
	numbers, ok := numbersIn(l.words)
	if l.kind != lineEnd || !ok || len(numbers) != 1 {
		return 0, false
	}
	return numbers[0], true
}

// numberIn returns the number that a word is, and whether it is one, written as it has to be.
func numberIn(word string) (int, bool) {
	n, e := strconv.Atoi(word)
	return n, e == nil && isSaid(n) && strconv.Itoa(n) == word
}

// numbersIn returns the numbers that some words are, and whether all of them are.
func numbersIn(words []string) ([]int, bool) {
	var numbers []int
	for _, word := range words {
		n, ok := numberIn(word)
		if !ok {
			return nil, false
		}
		numbers = append(numbers, n)
	}
	return numbers, true
}

// bookReader is a book that is read.
type bookReader struct{ api.Book }

// takes puts a line to the book, and tells whether it is right there.
func (r *bookReader) takes(l line) bool {
	numbers, ok := numbersIn(l.words)
	switch {
	case !ok:
		return false
	case l.kind == lineRow && isCommand(wordRow, numbers) && len(r.Letters) == 0:
		r.Rows = with(r.Rows, rowOf(numbers))
	case l.kind == lineLetter && isCommand(wordLetter, numbers) && areOfLetter(numbers):
		r.Letters = with(r.Letters, letterOf(numbers))
	default:
		return false
	}
	return true
}

// logReader is a log that is read.
type logReader struct{ log []api.Entry }

// takes puts a line to the log, and tells whether it is right there.
func (r *logReader) takes(l line) bool {
	if l.kind != lineDone || len(l.words) < 2 {
		return false
	}
	day, isDay := numberIn(l.words[0])
	word := l.words[1]
	args, ok := numbersIn(l.words[2:])
	if !isDay || !ok || !isCommand(word, args) {
		return false
	}
	r.log = with(r.log, api.Entry{Day: day, Word: word, Args: args})
	return true
}
