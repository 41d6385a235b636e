package usage_test

import (
	"math"
	"slices"
	"testing"

	"silt/api"
	"silt/usage"
)

func list(l ...int) []int { return l }

func geom(pages, segs, segLen, frames int) api.Geom {
	return api.Geom{Pages: pages, Segs: segs, SegLen: segLen, Frames: frames}
}

// eachShape asks do of each number of segments and each length of one, with other pages and frames.
func eachShape(do func(g api.Geom)) {
	for segs := 6; segs <= 16; segs++ {
		for segLen := 24; segLen <= 32; segLen++ {
			for _, pages := range list(1, 9, 64) {
				do(geom(pages, segs, segLen, 2+(segs+segLen+pages)%15))
			}
		}
	}
}

// far are numbers beyond all segments and sectors, though the lowest bits of some are one's.
func far() []int {
	l := []int{-1, -2, -4, -5, -28, -1 << 16, -1<<16 + 4, -1 << 32, -1<<32 + 4, -1<<32 + 28, 1 << 16, 1<<16 + 4, 1 << 31, 1 << 32, 1<<32 + 1, 1<<32 + 4, 1<<32 + 28, 1 << 40, 1 << 62,
		math.MinInt32, math.MaxInt32, math.MaxUint32}
	for i := range 33 {
		l = append(l, math.MinInt+i, math.MaxInt-i)
	}
	return l
}

// total is how many sectors a geometry has: two regions of two, then the segments.
func total(g api.Geom) int { return 4 + g.Segs*g.SegLen }

// lies is the segment in which a place lies, -1 of none: told by going through the device, segment by segment.
func lies(g api.Geom, place int) int {
	first := 4
	for seg := range g.Segs {
		if place >= first && place < first+g.SegLen {
			return seg
		}
		first += g.SegLen
	}
	return -1
}

// counted is what Count is to tell of a geometry that may be.
func counted(g api.Geom, places []int) []int {
	live := make([]int, g.Segs)
	for _, place := range places {
		if seg := lies(g, place); seg >= 0 {
			live[seg]++
		}
	}
	return live
}

// counts holds what Count tells.
func counts(t *testing.T, name string, g api.Geom, places, want []int) {
	t.Helper()
	if l := usage.Count(g, places); !slices.Equal(l, want) {
		t.Fatalf("%s: Count %+v, %v: %v, not %v", name, g, places, l, want)
	}
}

// frees holds what Free tells.
func frees(t *testing.T, name string, live []int, head int, want ...int) {
	t.Helper()
	if l := usage.Free(live, head); !slices.Equal(l, want) {
		t.Fatalf("%s: Free %v, %v: %v, not %v", name, live, head, l, want)
	}
}

// sums holds what Sum tells.
func sums(t *testing.T, name string, live []int, want int) {
	t.Helper()
	if n := usage.Sum(live); n != want {
		t.Fatalf("%s: Sum %v: %v, not %v", name, live, n, want)
	}
}

// each asks do of all lists of up to n numbers that are one of from.
func each(n int, from []int, do func(l []int)) {
	lists := [][]int{nil}
	for i := range n + 1 {
		var longer [][]int
		for _, l := range lists {
			do(l)
			for _, x := range from {
				if i < n {
					longer = append(longer, append(slices.Clone(l), x))
				}
			}
		}
		lists = longer
	}
}

// P11.1: numbers written out.
func TestCount(t *testing.T) {
	g := geom(16, 6, 24, 4)
	none := list(0, 0, 0, 0, 0, 0)
	for _, x := range []struct {
		name         string
		places, want []int
	}{
		{"no places", nil, none},
		{"no places", list(), none},
		{"regions", list(0, 1, 2, 3), none},
		{"below all", list(-1, -2, -4, -24, math.MinInt, math.MinInt+4), none},
		{"behind all", list(148, 149, 172, 1<<32+4, math.MaxInt), none},
		{"one", list(60), list(0, 0, 1, 0, 0, 0)},
		{"the first", list(4), list(1, 0, 0, 0, 0, 0)},
		{"the last", list(147), list(0, 0, 0, 0, 0, 1)},
		{"firsts", list(4, 28, 52, 76, 100, 124), list(1, 1, 1, 1, 1, 1)},
		{"lasts", list(27, 51, 75, 99, 123, 147), list(1, 1, 1, 1, 1, 1)},
		{"firsts and lasts", list(124, 147, 27, 4, 51, 28), list(2, 2, 0, 0, 0, 2)},
		{"several in one", list(80, 82, 99, 76), list(0, 0, 0, 4, 0, 0)},
		{"one twice", list(80, 80), list(0, 0, 0, 2, 0, 0)},
		{"one twice, others between", list(80, 5, 148, 80, 3), list(1, 0, 0, 2, 0, 0)},
		{"some in none", list(3, 4, -1, 147, 148, 0, 30), list(1, 1, 0, 0, 0, 1)},
		{"falling", list(147, 100, 28, 27, 4, 0), list(2, 1, 0, 0, 1, 1)},
	} {
		counts(t, x.name, g, x.places, x.want)
	}
	counts(t, "longer segments", geom(16, 6, 32, 4), list(35, 36, 195, 196), list(1, 1, 0, 0, 0, 1))
	counts(t, "more segments", geom(16, 8, 24, 4), list(147, 148, 195, 196), list(0, 0, 0, 0, 0, 1, 1, 1))
	counts(t, "most of all", geom(64, 16, 32, 16), list(515, 516, 484, 483), list(0, 0, 0, 0, 0, 0, 0, 0, 0, 0, 0, 0, 0, 0, 1, 2))
}

// P11.1: each place alone, in each number of segments and each length of one.
func TestCountEachPlace(t *testing.T) {
	eachShape(func(g api.Geom) {
		for place := -2 * g.SegLen; place < total(g)+2*g.SegLen; place++ {
			want := make([]int, g.Segs)
			if seg := lies(g, place); seg >= 0 {
				want[seg] = 1
			}
			counts(t, "one place", g, list(place), want)
		}
		for _, place := range far() {
			counts(t, "far", g, list(place), make([]int, g.Segs))
		}
	})
}

// P11.1: a place counts as often as it comes, be it the first of its segment or the last one.
func TestCountOften(t *testing.T) {
	eachShape(func(g api.Geom) {
		for seg := range g.Segs {
			for _, off := range list(0, 1, g.SegLen-2, g.SegLen-1) {
				for _, n := range list(1, 2, 3, 255, 256, 257) {
					want := make([]int, g.Segs)
					want[seg] = n
					counts(t, "often", g, slices.Repeat(list(4+seg*g.SegLen+off), n), want)
				}
			}
		}
		counts(t, "often, in none", g, slices.Repeat(list(3, -1, total(g)), 256), make([]int, g.Segs))
	})
	long := slices.Repeat(list(4, 3, 30), 1<<17)
	counts(t, "very often", geom(1, 6, 24, 2), long, list(1<<17, 1<<17, 0, 0, 0, 0))
}

// P11.1: all places at once, in any order, with those in no segment between.
func TestCountAll(t *testing.T) {
	eachShape(func(g api.Geom) {
		var all []int
		for place := range total(g) + g.SegLen {
			all = append(all, place)
		}
		all = append(all, far()...)
		want := slices.Repeat(list(g.SegLen), g.Segs)
		counts(t, "all", g, all, want)
		slices.Reverse(all)
		counts(t, "all, falling", g, all, want)
		for _, by := range list(2, 3, 7) {
			var step []int
			for i := range all {
				if i%by == 0 {
					step = append(step, all[i])
				}
			}
			counts(t, "some", g, step, counted(g, step))
		}
	})
}

// wrong are geometries with one number that may not be, or several.
func wrong() []api.Geom {
	l := []api.Geom{{}, geom(0, 5, 23, 1), geom(65, 17, 33, 17), geom(-16, -8, 24, 4), geom(16, -8, -24, 4)}
	for _, g := range []api.Geom{geom(1, 6, 24, 2), geom(64, 16, 32, 16), geom(16, 8, 24, 4)} {
		for _, x := range []struct {
			least, most int
			field       func(g *api.Geom) *int
		}{
			{1, 64, func(g *api.Geom) *int { return &g.Pages }},
			{6, 16, func(g *api.Geom) *int { return &g.Segs }},
			{24, 32, func(g *api.Geom) *int { return &g.SegLen }},
			{2, 16, func(g *api.Geom) *int { return &g.Frames }},
		} {
			for _, n := range append(far(), x.least-1, x.most+1, 0, 1<<8+x.least, 1<<32+x.least, -x.least) {
				if n < x.least || n > x.most {
					bad := g
					*x.field(&bad) = n
					l = append(l, bad)
				}
			}
		}
	}
	return l
}

// P11.1: of a geometry that may not be, none.
func TestCountOfNoGeometry(t *testing.T) {
	for _, g := range wrong() {
		for _, places := range [][]int{nil, {4}, {0, 4, 28, 147, 515}, {-1, math.MinInt, math.MaxInt}} {
			counts(t, "no geometry", g, places, nil)
		}
	}
}

// P11.1: segments written out.
func TestFree(t *testing.T) {
	frees(t, "the example", list(0, 2, 0), 0, 2)
	frees(t, "no segments", nil, 0)
	frees(t, "no segments", list(), 0)
	frees(t, "no segments", nil, -1)
	frees(t, "one", list(0), 1, 0)
	frees(t, "one, the head's", list(0), 0)
	frees(t, "one, live", list(1), 1)
	frees(t, "one, live and the head's", list(1), 0)

	frees(t, "head at the first", list(0, 0, 3, 0), 0, 1, 3)
	frees(t, "head between", list(0, 0, 3, 0), 1, 0, 3)
	frees(t, "head at the last", list(0, 0, 3, 0), 3, 0, 1)
	frees(t, "head at one that is not 0", list(0, 0, 3, 0), 2, 0, 1, 3)
	for _, head := range append(far(), 4, 5, 64, 256) {
		frees(t, "head at none", list(0, 0, 3, 0), head, 0, 1, 3)
	}

	frees(t, "all 0", list(0, 0, 0, 0), -1, 0, 1, 2, 3)
	frees(t, "all 0, head at one", list(0, 0, 0, 0), 2, 0, 1, 3)
	frees(t, "none 0", list(1, 2, 3, 4), -1)
	frees(t, "none 0, head at one", list(1, 2, 3, 4), 2)
	frees(t, "the first alone", list(0, 1, 1), -1, 0)
	frees(t, "the last alone", list(1, 1, 0), -1, 2)
	frees(t, "below 0", list(-1, 0, -2, math.MinInt, 0), -1, 1, 4)
	frees(t, "below 0, head's", list(-1, 0, -2), 0, 1)
	frees(t, "beyond all", list(1<<40, 0, 1<<40+1, 1<<32, -1<<32, math.MaxInt, 0), 6, 1)
}

// freed is what Free is to tell.
func freed(live []int, head int) []int {
	var l []int
	for seg := len(live) - 1; seg >= 0; seg-- {
		if live[seg] == 0 && seg != head {
			l = append(list(seg), l...)
		}
	}
	return l
}

// P11.1: numbers that are not 0 are not, wherever they stand, though their lowest bits may be.
func TestFreeOfAll(t *testing.T) {
	for _, n := range append(far(), 1, 2, 3, 23, 24, 32, 256, 1<<40+1) {
		for seg := range 6 {
			live := make([]int, 6)
			live[seg] = n
			for head := -2; head < 8; head++ {
				frees(t, "one that is not 0", live, head, freed(live, head)...)
			}
		}
	}
	each(6, list(0, 1, -1), func(live []int) {
		for head := -1; head <= len(live); head++ {
			frees(t, "all of some", live, head, freed(live, head)...)
		}
	})
}

// P11.1: lists may be longer than a store's segments.
func TestLong(t *testing.T) {
	for _, n := range list(16, 17, 64, 255, 256, 257, 1<<16, 1<<16+1) {
		live := slices.Repeat(list(3), n)
		sums(t, "long", live, 3*n)
		frees(t, "long: none", live, 0)
		for _, seg := range list(0, 1, n/2, n-1) {
			one := slices.Clone(live)
			one[seg] = 0
			sums(t, "long", one, 3*n-3)
			frees(t, "long: one", one, -1, seg)
			frees(t, "long: one, the head's", one, seg)
		}
		if l := usage.Free(make([]int, n), n-1); len(l) != n-1 || !slices.IsSorted(l) || l[0] != 0 || l[n-2] != n-2 {
			t.Fatalf("long: %v segments of %v", len(l), n)
		}
	}
}

// P11.1: sums written out.
func TestSum(t *testing.T) {
	const most = 1 << 40
	for _, x := range []struct {
		name string
		live []int
		sum  int
	}{
		{"none", nil, 0},
		{"none", list(), 0},
		{"0", list(0), 0},
		{"one", list(7), 7},
		{"many", list(1, 2, 3, 0, 24, 32), 62},
		{"alike", list(5, 5, 5), 15},
		{"-1", list(-1), 0},
		{"-1 between", list(4, -1, 6), 10},
		{"all below 0", list(-1, -2, -3), 0},
		{"the least", list(math.MinInt, 7, math.MinInt+1), 7},
		{"beyond 32 bits", list(1<<31, 1<<32, 1<<32+5), 1<<31 + 1<<33 + 5},
		{"one less than the most", list(most - 1), most - 1},
		{"the most", list(most), most},
		{"the most, twice", list(most, most), 2 * most},
		{"one more than the most", list(most + 1), 0},
		{"one more than the most, between", list(3, most+1, 4), 7},
		{"the greatest", list(math.MaxInt, 9, math.MaxInt-1), 9},
		{"the most below 0", list(-most, -most-1, 2), 2},
		{"all of them", list(math.MinInt, -1, 0, 1, most-1, most, most+1, math.MaxInt), 2 * most},
		{"the first and the last passed over", list(-1, 8, most+1), 8},
	} {
		sums(t, x.name, x.live, x.sum)
		live := slices.Clone(x.live)
		slices.Reverse(live)
		sums(t, x.name+", turned", live, x.sum)
	}
	for bit := range 63 {
		for by := -2; by <= 2; by++ {
			n := 1<<bit + by
			want := 0
			if n >= 0 && n <= most {
				want = n
			}
			sums(t, "a number", list(n), want)
			sums(t, "a number and 5", list(5, n), 5+want)
			if n > 2 {
				sums(t, "below 0", list(-n, 5), 5)
			}
		}
	}
	sums(t, "many of the most", slices.Repeat(list(most), 1000), 1000*most)
}

// P11.1: all lists of some numbers.
func TestSumOfAll(t *testing.T) {
	each(5, list(-3, 0, 1, 1<<40, 1<<40+1), func(live []int) {
		want := 0
		for _, n := range live {
			if n == 1 || n == 1<<40 {
				want += n
			}
		}
		sums(t, "all of some", live, want)
	})
}

// P11.2: no place lies in a segment that is told as free; each segment is, or is the head's, or has a place; and all that lie in segments come to the sum.
func TestNoFreeSegmentIsLive(t *testing.T) {
	eachShape(func(g api.Geom) {
		behind := total(g)
		for by := 1; by < 3*g.SegLen; by += 5 {
			var places []int
			for place := by % 9; place < behind+g.SegLen; place += by {
				places = append(places, place, -place, place/3)
			}
			for head := -1; head <= g.Segs; head++ {
				together(t, g, places, head)
			}
		}
		for place := -1; place <= behind; place++ {
			together(t, g, list(place), place%g.Segs)
			together(t, g, list(place, place), (place-4)/g.SegLen)
		}
		for _, head := range append(far(), 0, g.Segs-1, g.Segs) {
			together(t, g, nil, head)
			together(t, g, list(0, 3, behind, -1, math.MinInt, math.MaxInt), head)
			together(t, g, list(4, behind-1), head)
		}
	})
}

// together holds Count, Free and Sum of the same places against each other.
func together(t *testing.T, g api.Geom, places []int, head int) {
	t.Helper()
	live := usage.Count(g, places)
	free := usage.Free(live, head)
	in := make([]int, g.Segs)
	all := 0
	for _, place := range places {
		seg := lies(g, place)
		if seg < 0 {
			continue
		}
		all++
		in[seg]++
		if slices.Contains(free, seg) {
			t.Fatalf("%+v, %v, %v: %v lies in segment %v of %v", g, places, head, place, seg, free)
		}
	}
	for seg, n := range in {
		if told := slices.Contains(free, seg); told != (n == 0 && seg != head) {
			t.Fatalf("%+v, %v, %v: segment %v has %v places: %v", g, places, head, seg, n, free)
		}
	}
	if !slices.IsSorted(free) || len(slices.Compact(slices.Clone(free))) != len(free) {
		t.Fatalf("%+v, %v, %v: not rising: %v", g, places, head, free)
	}
	if n := usage.Sum(live); n != all {
		t.Fatalf("%+v, %v: %v in all, not %v", g, places, n, all)
	}
}

// Rule 2: no call changes what it is given, nor its spare room.
func TestNothingChanged(t *testing.T) {
	g := geom(16, 8, 24, 4)
	room := list(4, 0, 1, -6, 0, 8, 1<<40+1, -3, 77, 0, 0, 195, 196, 4, 1<<40, 0)
	was := slices.Clone(room)
	for i := range len(room) + 1 {
		for j := range i + 1 {
			l := room[j:i]
			usage.Count(g, l)
			usage.Count(api.Geom{}, l)
			usage.Sum(l)
			for head := -1; head <= len(l); head++ {
				usage.Free(l, head)
			}
			if !slices.Equal(room, was) {
				t.Fatalf("%v to %v: %v, not %v", j, i, room, was)
			}
		}
	}
}

// fill overwrites a list, and its spare room.
func fill(l []int) {
	l = l[:cap(l)]
	for i := range l {
		l[i] = -5000 - i
	}
}

// isNew holds that what is told of a list is nobody else's memory, its spare room too.
func isNew(t *testing.T, name string, given, want []int, ask func(l []int) []int) {
	t.Helper()
	was := slices.Clone(given)
	first, second := ask(given), ask(given)
	fill(first)
	if !slices.Equal(second, want) || !slices.Equal(given[:len(was)], was) {
		t.Fatalf("%s: shared: %v, %v, not %v, %v", name, second, given, want, was)
	}
	fill(second)
	third := ask(given)
	fill(given)
	if !slices.Equal(third, want) {
		t.Fatalf("%s: shared: %v, not %v", name, third, want)
	}
}

// Rule 2: what Count and Free tell shares no memory with what is handed in, nor with another answer.
func TestNewMemory(t *testing.T) {
	eachShape(func(g api.Geom) {
		for _, places := range [][]int{{4, 28, 0, 5, -1}, {0, 0, 0}, nil, slices.Repeat(list(4), 40), {1, 2, 3, 4, 5, 6, 7, 8}} {
			isNew(t, "Count", slices.Clone(places), counted(g, places), func(l []int) []int { return usage.Count(g, l) })
		}
	})
	for n := range 40 {
		for head := -1; head < n; head++ {
			isNew(t, "Free of zeros", make([]int, n), freed(make([]int, n), head), func(l []int) []int { return usage.Free(l, head) })
		}
	}
	for _, live := range [][]int{{0, 2, 0}, {1, 2, 3}, {0, 0, 0, 3}, {-1, 0, 5, 0, 0, 0, 9, 0}} {
		for head := -1; head <= len(live); head++ {
			isNew(t, "Free", slices.Clone(live), freed(live, head), func(l []int) []int { return usage.Free(l, head) })
		}
	}
}

// Rule 4: what was asked before changes no answer.
func TestAnswersStay(t *testing.T) {
	g := geom(16, 6, 24, 4)
	for range 3 {
		counts(t, "some", g, list(4, 27, 28, 147, 4), list(3, 1, 0, 0, 0, 1))
		counts(t, "none", api.Geom{}, list(4), nil)
		counts(t, "none lies in one", g, list(0, 148), make([]int, 6))
		counts(t, "more segments", geom(64, 16, 32, 16), nil, make([]int, 16))
		counts(t, "some again", g, list(28), list(0, 1, 0, 0, 0, 0))
		frees(t, "some", list(0, 2, 0), 0, 2)
		frees(t, "none", list(4), 0)
		frees(t, "others", list(0, 2, 0), 2, 0)
		sums(t, "some", list(1, 2, 3), 6)
		sums(t, "none", nil, 0)
		sums(t, "passed over", list(-1, 1<<40+1, 1), 1)
	}
}
