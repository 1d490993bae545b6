package leader

import (
	"slices"

	"azalai/api"
)

// The words by which a book is entered.
const (
	wordRow    = "ROW"
	wordLetter = "LETTER"
)

// command is how many numbers a word needs, and what a company does by it.
type command struct {
	numbers int
	does    func(*company, []int)
}

func commands() map[string]command {
	return map[string]command{
		"MARCH":    {9, (*company).marches},
		"REST":     {4, (*company).rests},
		"MARK":     {6, (*company).seesMark},
		"STAR":     {2, (*company).seesStar},
		"NEAR":     {3, (*company).seesNear},
		"DRINK":    {1, (*company).drinks},
		"JOLT":     {2, (*company).stumbles},
		"SETTLE":   {1, (*company).settles},
		wordRow:    {14, (*company).counts},
		wordLetter: {8, (*company).hears},
	}
}

// isCommand tells whether a word is one of a command, with as many numbers as it needs.
func isCommand(word string, numbers []int) bool {
	c, known := commands()[word]
	return known && len(numbers) == c.numbers
}

// does does a command, and puts it into the log, or returns why it is refused.
func (c *company) does(word string, numbers []int) (said string, e api.Errno) {
	return refused(func() {
		refuseIf(!isCommand(word, numbers), api.ErrWord)
		refuseIf(!all(numbers, isSaid), api.ErrArg)
		refuseIf(len(c.Log) == api.MaxLog, api.ErrFull)
		commands()[word].does(c, numbers)
		c.Log = with(c.Log, api.Entry{Day: c.Day, Word: word, Args: slices.Clone(numbers)})
	})
}

// rowOf returns the row of the numbers of a command.
func rowOf(n []int) api.Row {
	return api.Row{
		Born:    spanAt(n, 0),
		Bought:  spanAt(n, 2),
		Found:   spanAt(n, 4),
		Died:    spanAt(n, 6),
		Sold:    spanAt(n, 8),
		Strayed: spanAt(n, 10),
		Count:   spanAt(n, 12),
	}
}

func numbersOfRow(r api.Row) []int {
	var numbers []int
	for _, s := range []api.Span{r.Born, r.Bought, r.Found, r.Died, r.Sold, r.Strayed, r.Count} {
		numbers = append(numbers, s.Lo, s.Hi)
	}
	return numbers
}

// areOfLetter tells whether the numbers of a command may be those of a letter: whether its kind and whether it was told by mouth are ones that it can have.
func areOfLetter(n []int) bool { return inRange(n[2], 0, 255) && inRange(n[7], 0, 1) }

// letterOf returns the letter of the numbers of a command.
func letterOf(n []int) api.Letter {
	return api.Letter{
		Id:     n[0],
		Day:    n[1],
		Kind:   uint8(n[2]),
		Who:    n[3],
		Other:  n[4],
		Animal: n[5],
		Rials:  n[6],
		Mouth:  n[7] == 1,
	}
}

func numbersOfLetter(l api.Letter) []int {
	mouth := 0
	if l.Mouth {
		mouth = 1
	}
	return []int{l.Id, l.Day, int(l.Kind), l.Who, l.Other, l.Animal, l.Rials, mouth}
}
