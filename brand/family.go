package brand

import (
	"cmp"
	"iter"
	"slices"

	"azalai/api"
)

const noMother = -1

// family is a valid herd, with the index of each animal by its Id, and the indices in an order in which each mother is before her calves.
type family struct {
	animals []api.Animal
	index   map[int]int
	elders  []int
}

// gather returns a herd as a family, and ErrHerd unless it is valid.
func gather(herd []api.Animal) (family, api.Errno) {
	if len(herd) > api.MaxBeasts {
		return family{}, api.ErrHerd
	}
	f := family{animals: herd, index: map[int]int{}}
	for i, a := range herd {
		if f.has(a.Id) {
			return family{}, api.ErrHerd
		}
		f.index[a.Id] = i
	}
	for _, a := range herd {
		if !f.valid(a) {
			return family{}, api.ErrHerd
		}
	}
	// Only now each mother is known to be of the herd, so that lines can be followed.
	for i, a := range herd {
		if f.circles(a.Id) {
			return family{}, api.ErrHerd
		}
		f.elders = append(f.elders, i)
	}
	slices.SortFunc(f.elders, func(i, k int) int {
		return cmp.Compare(len(f.line(herd[i].Id)), len(f.line(herd[k].Id)))
	})
	return f, api.OK
}

// gatherBirths returns a herd as a family, with the births that are possible, or the error of both.
func gatherBirths(herd []api.Animal) (family, []api.Span, api.Errno) {
	f, e := gather(herd)
	if e != api.OK {
		return family{}, nil, e
	}
	born := make([]api.Span, len(herd))
	for i, a := range herd {
		born[i] = a.Born
	}
	f.narrow(born)
	if slices.ContainsFunc(born, empty) {
		return family{}, nil, api.ErrDams
	}
	return f, born, api.OK
}

func (f family) has(id int) bool {
	_, ok := f.index[id]
	return ok
}

// valid tells whether an animal is valid by itself, and its mother is of the herd.
func (f family) valid(a api.Animal) bool {
	return a.Id >= 0 && a.Id <= api.MaxId &&
		(a.Mother == noMother || f.has(a.Mother)) &&
		within(-api.MaxDay, api.MaxDay, a.Born) &&
		validMarks(a.Marks)
}

// circles tells whether the line of an animal never ends: then it has more mothers than there are other animals.
func (f family) circles(id int) bool {
	steps := 0
	for range f.mothers(id) {
		if steps++; steps == len(f.animals) {
			return true
		}
	}
	return false
}

// mothers yields the Ids of an animal's mother, of her mother, and so on.
func (f family) mothers(id int) iter.Seq[int] {
	return func(yield func(int) bool) {
		for dam := f.dam(id); dam != noMother && yield(dam); {
			dam = f.dam(dam)
		}
	}
}

func (f family) dam(id int) int { return f.animals[f.index[id]].Mother }

// line returns the Ids of an animal, of its mother, and so on.
func (f family) line(id int) []int {
	return slices.AppendSeq([]int{id}, f.mothers(id))
}

// narrow leaves of each of some spans for the births of all animals the least span that has all births in them; at least one is empty then if there are none. Up the lines mothers are bound by their calves, and then calves by their mothers: as no animal has two mothers, each day that is left is one of some births.
func (f family) narrow(born []api.Span) {
	atBirth := api.Span{Lo: api.MinDam, Hi: api.MaxDam}
	for _, i := range slices.Backward(f.elders) {
		if dam := f.animals[i].Mother; dam != noMother {
			m := f.index[dam]
			born[m] = common(born[m], less(born[i], atBirth))
		}
	}
	for _, i := range f.elders {
		if dam := f.animals[i].Mother; dam != noMother {
			born[i] = common(born[i], sum(born[f.index[dam]], atBirth))
		}
	}
}

func idOf(a api.Animal) int { return a.Id }

// numbers returns the number of each of some things, in ascending order.
func numbers[T any](things []T, number func(T) int) []int {
	all := make([]int, len(things))
	for i, thing := range things {
		all[i] = number(thing)
	}
	slices.Sort(all)
	return all
}
