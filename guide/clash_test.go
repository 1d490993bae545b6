package guide_test

import (
	"slices"
	"testing"

	"azalai/api"
	"azalai/guide"
)

// P4.4: which looks contradict each other; of several sets of them the one that is left when the first ones are left out first.
func TestClash(t *testing.T) {
	low, middle, high := star(0, 10), star(20, 30), star(40, 50)
	wide := star(-10000000, 10000000)
	// Whoever sees slope is about 7,000 to the east and north, together.
	slope := mark(7000, 0, course(-1, 1), course(999, -1000))
	west := near(-7000, 0, 10000)
	for i, x := range []struct {
		looks []api.Sight
		want  []int
	}{
		{nil, nil},
		{[]api.Sight{low}, nil},
		{[]api.Sight{low, star(10, 10), star(0, 20)}, nil},
		{[]api.Sight{low, high}, []int{0, 1}},
		{[]api.Sight{low, middle, high}, []int{1, 2}},
		{[]api.Sight{high, low, middle}, []int{1, 2}},
		{[]api.Sight{low, low, high}, []int{1, 2}},
		{[]api.Sight{low, high, high}, []int{0, 2}},
		{[]api.Sight{wide, low, wide, high, wide}, []int{1, 3}},
		{[]api.Sight{star(-7, -5)}, []int{0}},
		{[]api.Sight{star(-7, -5), star(-7, -5)}, []int{1}},
		{[]api.Sight{low, star(-7, -5), high}, []int{1}},
		{[]api.Sight{star(-7, -5), low, middle}, []int{1, 2}},
		{[]api.Sight{low, high, near(-10, 0, 9)}, []int{2}},
		{[]api.Sight{slope, west, star(0, 3000)}, []int{0, 1, 2}},
		{[]api.Sight{wide, star(0, 4004), wide, west, slope}, []int{1, 3, 4}},
		{[]api.Sight{wide, star(0, 4005), wide, west, slope}, nil},
		{[]api.Sight{slope, west, star(0, 3000), star(3001, 9000)}, []int{2, 3}},
		{[]api.Sight{star(3001, 9000), star(0, 3000), slope, west}, []int{1, 2, 3}},
		{[]api.Sight{wide, wide, wide, wide, wide, wide, wide, wide, low, high}, []int{8, 9}},
		{[]api.Sight{low, wide, wide, wide, wide, wide, wide, wide, wide, high}, []int{0, 9}},
	} {
		l, e := guide.Clash(field(), x.looks)
		if !slices.Equal(l, x.want) || e != due(x.want != nil, api.ErrNone) {
			t.Error(i, l, e, "want", x.want)
		}
	}
}

// P4.4: there may be more halves than an area has.
func TestClashMany(t *testing.T) {
	a := within(span(0, 10), span(0, 10), slices.Repeat([]api.Half{half(1, 1, 10)}, 36)...)
	looks := slices.Repeat([]api.Sight{near(0, 0, 20)}, 10)
	if l, e := guide.Clash(a, looks); len(l) != 0 || e != api.ErrNone {
		t.Error(l, e)
	}
	looks[3], looks[7] = near(10, 0, 4), near(10, 10, 4)
	if l, e := guide.Clash(a, looks); !slices.Equal(l, []int{7}) || e != api.OK {
		t.Error(l, e)
	}
	looks[7] = near(10, 10, 5)
	if l, e := guide.Clash(a, looks); !slices.Equal(l, []int{3, 7}) || e != api.OK {
		t.Error(l, e)
	}
}

// P4.4: in an area without a place no look is to blame.
func TestClashNowhere(t *testing.T) {
	for i, looks := range [][]api.Sight{nil, {}, {star(0, 10)}, {star(0, 10), star(20, 30), near(50000, 0, 3)}} {
		if l, e := guide.Clash(nowhere(), looks); len(l) != 0 || e != api.OK {
			t.Error(i, l, e)
		}
	}
}

// P4.4: too many looks, and one that is not valid, whatever the others are.
func TestClashErrors(t *testing.T) {
	bad := star(1, 0)
	for i, x := range []struct {
		looks []api.Sight
		e     api.Errno
	}{
		{slices.Repeat([]api.Sight{lookA()}, 10), api.ErrNone},
		{slices.Repeat([]api.Sight{lookA()}, 11), api.ErrMany},
		{slices.Repeat([]api.Sight{bad}, 11), api.ErrMany},
		{slices.Repeat([]api.Sight{star(-1, -1)}, 11), api.ErrMany},
		{[]api.Sight{bad}, api.ErrSight},
		{[]api.Sight{lookA(), bad}, api.ErrSight},
		{[]api.Sight{star(-1, -1), bad, star(-1, -1)}, api.ErrSight},
	} {
		if l, e := guide.Clash(field(), x.looks); len(l) != 0 || e != x.e {
			t.Error(i, l, e)
		}
	}
	if l, e := guide.Clash(nowhere(), []api.Sight{bad}); len(l) != 0 || e != api.ErrSight {
		t.Error(l, e)
	}
}
