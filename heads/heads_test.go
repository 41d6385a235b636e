package heads_test

import (
	"math"
	"slices"
	"testing"

	"silt/api"
	"silt/heads"
)

func list(l ...int) []int { return l }

// far are heads that no block has; none of them is NoPage, though the lowest bits of some are.
func far() []int {
	l := []int{-1, -2, -4, -256, -1024, -1 << 16, -1 << 32, 2, 3, 256, 1024, 1025, 1 << 16, 1 << 31, 1 << 32, 1<<32 + 4, 1 << 62, math.MinInt32, math.MaxInt32, math.MaxUint32}
	for i := range 3 {
		l = append(l, math.MinInt+i, math.MaxInt-i)
	}
	return l
}

// heady are heads that are not NoPage: those that may be, and those that may not.
func heady() []int { return append(far(), api.Zeros, 4, 5, 63, 64, 255, 1023) }

// each asks do of all lists of up to n heads that are one of from.
func each(n int, from []int, do func(l []int)) {
	do(nil)
	lists := [][]int{nil}
	for range n {
		var longer [][]int
		for _, l := range lists {
			for _, head := range from {
				longer = append(longer, append(slices.Clone(l), head))
			}
		}
		for _, l := range longer {
			do(l)
		}
		lists = longer
	}
}

// none are the pages that are NoPage, and there how many are not.
func none(l []int) (pages []int, there int) {
	for page, head := range l {
		if head == 0 {
			pages = append(pages, page)
		}
	}
	return pages, len(l) - len(pages)
}

// counts holds that Count tells the number of heads that are not NoPage.
func counts(t *testing.T, name string, l []int) {
	t.Helper()
	if _, there := none(l); heads.Count(l) != there {
		t.Errorf("%s: %v: %v, not %v", name, l, heads.Count(l), there)
	}
}

// is holds what Least tells.
func is(t *testing.T, name string, l []int, most, page int) {
	t.Helper()
	if p, e := heads.Least(l, most); p != page || e != api.OK {
		t.Errorf("%s: %v, %v: %v, %v, not %v", name, l, most, p, e, page)
	}
}

// isNot holds that there is no room.
func isNot(t *testing.T, name string, l []int, most int) {
	t.Helper()
	if p, e := heads.Least(l, most); p != 0 || e != api.ErrSpace {
		t.Errorf("%s: %v, %v: %v, %v", name, l, most, p, e)
	}
}

// mosts holds Least with every most that is an edge of l's.
func mosts(t *testing.T, name string, l []int) {
	t.Helper()
	pages, there := none(l)
	for _, most := range list(there, there-1, there-2, 0, -1, -2, -64, -1<<32, -1<<32+64, math.MinInt32, math.MinInt, math.MinInt+1) {
		if most <= there {
			isNot(t, name, l, most)
		}
	}
	for _, most := range list(there+1, there+2, len(l)+1, len(l)+2, 1<<16, 1<<31, 1<<32, 1<<62, math.MaxInt-1, math.MaxInt) {
		if len(pages) > 0 {
			is(t, name, l, most, pages[0])
		} else {
			isNot(t, name, l, most)
		}
	}
}

// differ holds that Changed tells those pages, whichever of the two comes first.
func differ(t *testing.T, name string, a, b []int, pages ...int) {
	t.Helper()
	if l := heads.Changed(a, b); !slices.Equal(l, pages) {
		t.Errorf("%s: %v, %v: %v, not %v", name, a, b, l, pages)
	}
	if l := heads.Changed(b, a); !slices.Equal(l, pages) {
		t.Errorf("%s, turned: %v, %v: %v, not %v", name, b, a, l, pages)
	}
}

// held is what Changed is to tell: both are made as long as the longer one, then held against each other.
func held(a, b []int) (pages []int) {
	a, b = slices.Clone(a), slices.Clone(b)
	for len(a) < len(b) {
		a = append(a, 0)
	}
	for len(b) < len(a) {
		b = append(b, 0)
	}
	for page := range a {
		if a[page] != b[page] {
			pages = append(pages, page)
		}
	}
	return pages
}

// P9.1: numbers written out.
func TestCount(t *testing.T) {
	for i, x := range []struct {
		l []int
		n int
	}{
		{nil, 0},
		{list(), 0},
		{list(0), 0},
		{list(0, 0, 0), 0},
		{list(4), 1},
		{list(1), 1},
		{list(-1), 1},
		{list(4, 5, 6), 3},
		{list(4, 4, 4, 1, 1), 5},
		{list(0, 5, 6), 2},
		{list(4, 5, 0), 2},
		{list(0, 5, 0, 0, 6, 0), 2},
		{list(2, 0, 1024), 2},
	} {
		if n := heads.Count(x.l); n != x.n {
			t.Errorf("%d: %v: %v, not %v", i, x.l, n, x.n)
		}
	}
	each(4, list(0, 1, 4, -1, 1023), func(l []int) { counts(t, "all of some", l) })
}

// P9.1: NoPage alone is no page.
func TestHeadsOfAllKinds(t *testing.T) {
	for _, head := range heady() {
		for n := 1; n < 5; n++ {
			full := slices.Repeat(list(head), n)
			if heads.Count(full) != n {
				t.Errorf("%v: %v", full, heads.Count(full))
			}
			mosts(t, "none is NoPage", full)
			for page := range n {
				l := slices.Clone(full)
				l[page] = api.NoPage
				if heads.Count(l) != n-1 {
					t.Errorf("%v: %v", l, heads.Count(l))
				}
				is(t, "one is NoPage", l, n, page)
				mosts(t, "one is NoPage", l)
				differ(t, "one is NoPage", l, full, page)
			}
		}
	}
	for _, a := range heady() {
		for _, b := range heady() {
			if a == b {
				differ(t, "alike", list(a), list(b))
			} else {
				differ(t, "two heads", list(a), list(b), 0)
			}
		}
	}
}

// P9.1: pages written out.
func TestLeast(t *testing.T) {
	is(t, "the example", list(4, 0), 2, 1)
	is(t, "the example", list(4, 0), math.MaxInt, 1)
	is(t, "one page", list(0), 1, 0)
	is(t, "all are NoPage", list(0, 0, 0), 1, 0)
	is(t, "the first alone", list(0, 5, 1), 3, 0)
	is(t, "the last alone", list(4, 5, 0), 3, 2)
	is(t, "one between", list(4, 0, 6), 3, 1)
	is(t, "several", list(4, 5, 0, 7, 0, 0, 9, 0), 5, 2)
	is(t, "several, and the first of them", list(0, 5, 0, 0, 9, 0), 3, 0)
	is(t, "one more than there are", list(4, 0, 5, 0), 3, 1)
	is(t, "many more than there are", list(4, 0, 5, 0), 64, 1)

	isNot(t, "most alone: just as many", list(4, 0, 5, 0), 2)
	isNot(t, "most alone: one less", list(4, 0, 5, 0), 1)
	isNot(t, "most alone: 0", list(4, 0, 5, 0), 0)
	isNot(t, "most alone: 0, and no page is there", list(0, 0), 0)
	isNot(t, "most alone: below 0", list(0, 0), -1)
	isNot(t, "most alone: the least", list(4, 0), math.MinInt)
	isNot(t, "none is NoPage alone", list(4, 5), 3)
	isNot(t, "none is NoPage alone", list(4, 5), math.MaxInt)
	isNot(t, "both: just as many", list(4, 5), 2)
	isNot(t, "both: one less", list(4, 5), 1)
	isNot(t, "both: below 0", list(4, 5), -1)
	for _, l := range [][]int{nil, {}} {
		isNot(t, "no heads alone", l, 1)
		isNot(t, "no heads alone", l, math.MaxInt)
		isNot(t, "no heads, and none may be", l, 0)
		isNot(t, "no heads, and none may be", l, math.MinInt)
	}
}

// P9.1: every edge of most, of all lists of some heads.
func TestMosts(t *testing.T) {
	mosts(t, "empty", list())
	each(5, list(0, 1, 4, -1), func(l []int) { mosts(t, "all of some", l) })
}

// P9.1: lists may be longer than a store's pages.
func TestLong(t *testing.T) {
	for _, n := range list(63, 64, 65, 255, 256, 257, 1000, 1<<16, 1<<16+1) {
		full := slices.Repeat(list(7), n)
		counts(t, "long", full)
		isNot(t, "long: none is NoPage", full, math.MaxInt)
		for _, page := range list(0, 1, 62, 63, 64, n/2, n-2, n-1) {
			if page >= n {
				continue
			}
			l := slices.Clone(full)
			l[page] = api.NoPage
			counts(t, "long", l)
			is(t, "long", l, n, page)
			isNot(t, "long", l, n-1)
			differ(t, "long", l, full, page)
			if page == n-1 {
				differ(t, "long, and cut", l[:page], full, page)
				differ(t, "long, and cut", l[:page], l)
			}
		}
		empty := make([]int, n)
		counts(t, "long: all are NoPage", empty)
		is(t, "long: all are NoPage", empty, 1, 0)
		isNot(t, "long: all are NoPage", empty, 0)
		differ(t, "long: all are NoPage", empty, nil)
		if l := heads.Changed(nil, full); len(l) != n || !slices.IsSorted(l) || l[0] != 0 || l[n-1] != n-1 {
			t.Errorf("long: %v pages of %v", len(l), n)
		}
	}
}

// P9.2: what is least is not there yet; what is below it is. Taken, it is there, and one more.
func TestTaken(t *testing.T) {
	each(6, list(0, 1, 900), func(l []int) {
		for most := -1; most < len(l)+2; most++ {
			taken(t, slices.Clone(l), most)
		}
	})
	taken(t, make([]int, 64), 64)
	taken(t, make([]int, 64), 63)
	taken(t, make([]int, 100), math.MaxInt)
}

// taken takes the least page till there is no room, and holds what each is.
func taken(t *testing.T, l []int, most int) {
	t.Helper()
	free, there := none(l)
	room := max(0, min(len(free), most-there))
	for i := range room {
		was := slices.Clone(l)
		page, e := heads.Least(l, most)
		if e != api.OK || page != free[i] || l[page] != api.NoPage || slices.Contains(l[:page], api.NoPage) {
			t.Errorf("%v, %v: %v, %v, not %v", l, most, page, e, free[i])
			return
		}
		l[page] = api.Zeros + 3*(i%2)
		if heads.Count(l) != there+i+1 {
			t.Errorf("%v: %v, not %v", l, heads.Count(l), there+i+1)
		}
		differ(t, "taken", was, l, page)
	}
	isNot(t, "taken till the end", l, most)
	// Free again, it is the least once more.
	if room > 0 {
		l[free[0]] = api.NoPage
		is(t, "taken, and free again", l, most, free[0])
	}
}

// P9.1: pages written out.
func TestChanged(t *testing.T) {
	l := list(4, 0, 1, 6)
	differ(t, "no heads", nil, nil)
	differ(t, "no heads", nil, list())
	differ(t, "no heads", list(), list())
	differ(t, "alike", l, list(4, 0, 1, 6))
	differ(t, "one list", l, l)
	differ(t, "the first", l, list(5, 0, 1, 6), 0)
	differ(t, "the first, none", l, list(0, 0, 1, 6), 0)
	differ(t, "the last", l, list(4, 0, 1, 7), 3)
	differ(t, "the last, none", l, list(4, 0, 1, 0), 3)
	differ(t, "one between", l, list(4, 5, 1, 6), 1)
	differ(t, "one between, zeros or none", l, list(4, 0, 0, 6), 2)
	differ(t, "the first and the last", l, list(0, 0, 1, 0), 0, 3)
	differ(t, "all", l, list(0, 4, 6, 1), 0, 1, 2, 3)
	differ(t, "heads that changed places", list(4, 5), list(5, 4), 0, 1)

	differ(t, "shorter by none", l, list(4, 0, 1, 6, 0))
	differ(t, "shorter by nones", l, list(4, 0, 1, 6, 0, 0, 0))
	differ(t, "shorter by a head", l, list(4, 0, 1, 6, 8), 4)
	differ(t, "shorter by heads", l, list(4, 0, 1, 6, 8, 1, -9), 4, 5, 6)
	differ(t, "shorter by both", l, list(4, 0, 1, 6, 0, 8, 0, 1), 5, 7)
	differ(t, "shorter, and one differs", l, list(9, 0, 1, 6, 0, 8), 0, 5)
	differ(t, "shorter, and the last one differs", l, list(4, 0, 1, 0, 0), 3)
	differ(t, "shorter by what its last ones are", list(4, 4), list(4, 4, 4, 4), 2, 3)

	for _, none := range [][]int{nil, {}} {
		differ(t, "none and some", none, l, 0, 2, 3)
		differ(t, "none and nones", none, list(0, 0, 0))
		differ(t, "none and one", none, list(1), 0)
		differ(t, "none and one behind none", none, list(0, 1), 1)
	}
}

// P9.1: all pairs of lists of some heads.
func TestChangedOfAll(t *testing.T) {
	var all [][]int
	each(4, list(0, 1, 4), func(l []int) { all = append(all, l) })
	for _, a := range all {
		for _, b := range all {
			if got, want := heads.Changed(a, b), held(a, b); !slices.Equal(got, want) {
				t.Errorf("%v, %v: %v, not %v", a, b, got, want)
			}
		}
	}
}

// Rule 2: no call changes what it is given, nor its spare room.
func TestNothingChanged(t *testing.T) {
	room := list(4, 0, 1, 6, 0, 8, 0, -3, 77, 0, 0, 12)
	was := slices.Clone(room)
	for i := range len(room) + 1 {
		for j := range i + 1 {
			a, b := room[:j], room[j:i]
			heads.Count(a)
			heads.Count(b)
			for _, most := range list(-1, 0, 1, 3, 99) {
				heads.Least(a, most)
				heads.Least(b, most)
			}
			heads.Changed(a, b)
			heads.Changed(b, a)
			heads.Changed(a, a)
			if !slices.Equal(room, was) {
				t.Fatalf("%v, %v: %v, not %v", j, i, room, was)
			}
		}
	}
}

// Rule 2: what Changed tells is nobody else's memory, its spare room too.
func TestNewMemory(t *testing.T) {
	for _, x := range []struct{ a, b []int }{
		{list(0, 1, 2, 3, 4), list(5, 6, 7, 8, 9)},
		{list(0, 1, 2, 3, 4), nil},
		{nil, list(1, 1, 2, 3, 4)},
		{list(0, 1, 2), list(0, 0, 0, 4, 5, 6, 7)},
		{list(0, 1, 2), list(0, 1, 2)},
		{nil, nil},
	} {
		a, b, want := slices.Clone(x.a), slices.Clone(x.b), held(x.a, x.b)
		first := heads.Changed(x.a, x.b)
		second := heads.Changed(x.a, x.b)
		fill(first)
		if !slices.Equal(second, want) || !slices.Equal(x.a, a) || !slices.Equal(x.b, b) {
			t.Errorf("shared: %v, %v, %v, not %v", x.a, x.b, second, want)
		}
		fill(second)
		third := heads.Changed(x.a, x.b)
		fill(x.a)
		fill(x.b)
		if !slices.Equal(third, want) {
			t.Errorf("shared: %v, not %v", third, want)
		}
	}
}

// fill overwrites a list, and its spare room.
func fill(l []int) {
	l = l[:cap(l)]
	for i := range l {
		l[i] = -5000 - i
	}
}

// Rule 4: what was asked before changes no answer.
func TestAnswersStay(t *testing.T) {
	for range 3 {
		is(t, "room", list(4, 0), 2, 1)
		isNot(t, "no room", list(4, 0), 1)
		isNot(t, "no heads", nil, 9)
		is(t, "room again", list(4, 0), 2, 1)
		counts(t, "some", list(4, 0, 1))
		differ(t, "some", list(4, 0, 1), list(4, 1), 1, 2)
		differ(t, "none", nil, nil)
	}
}
