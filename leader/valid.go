package leader

import (
	"azalai/api"
	"azalai/brand"
	"azalai/camel"
	"azalai/guide"
	"azalai/load"
	"azalai/share"
	"azalai/way"
)

func validCompany(c api.Company) bool {
	return inRange(c.Day, 0, api.MaxDay-1) && validLand(c) && validArea(c.Area) && validCaravan(c) &&
		validTally(c) && validLetters(c) && validHistory(c)
}

// validLand tells whether the land of a company is valid, with what was drawn from its wells.
func validLand(c api.Company) bool {
	if way.Check(c.Land) != api.OK {
		return false
	}
	for well := range c.Land.Wells {
		if _, _, e := way.Water(c.Land, well, c.Draws, c.Day+1); e != api.OK {
			return false
		}
	}
	return all(c.Draws, func(d api.Draw) bool { return d.Day <= c.Day })
}

func validArea(a api.Area) bool {
	_, _, e := guide.Bounds(a)
	return e == api.OK
}

// validCaravan tells whether the animals of a company are valid, and each one has its load.
func validCaravan(c api.Company) bool {
	return inRange(len(c.Camels), 1, api.MaxCamels) &&
		all(c.Camels, func(animal api.Camel) bool { return camel.CheckCamel(c.Breed, animal) == api.OK }) &&
		load.Check(c.Packs, c.Ties) == api.OK && len(c.Ties) == len(c.Camels) && inRange(c.Bound, 0, api.MaxWeight)
}

func validTally(c api.Company) bool {
	_, _, _, e := brand.Tally(c.First, c.Rows)
	return e == api.OK
}

func validLetters(c api.Company) bool {
	_, _, e := share.Read(c.Pact, c.Letters)
	return e == api.OK
}

// validHistory tells whether the log of a company is valid: one that can be written, on days that went by, one after the other.
func validHistory(c api.Company) bool {
	if !validLog(c.Log) {
		return false
	}
	day := 0
	for _, entry := range c.Log {
		if !inRange(entry.Day, day, c.Day) {
			return false
		}
		day = entry.Day
	}
	return true
}

// validLog tells whether a log can be written; its days may be any numbers.
func validLog(log []api.Entry) bool {
	return len(log) <= api.MaxLog && all(log, func(e api.Entry) bool {
		return isSaid(e.Day) && isCommand(e.Word, e.Args) && all(e.Args, isSaid)
	})
}

func validBook(b api.Book) bool {
	return len(b.Rows)+len(b.Letters) <= api.MaxLines &&
		all(b.Rows, func(r api.Row) bool { return all(numbersOfRow(r), isSaid) }) &&
		all(b.Letters, func(l api.Letter) bool { return all(numbersOfLetter(l), isSaid) })
}
