package victim_test

import (
	"math"
	"math/big"
	"slices"
	"sort"
	"testing"

	"silt/victim"
)

// last is the greatest age there is.
const last = math.MaxUint32

func list(l ...int) []int { return l }

func ages(l ...uint32) []uint32 { return l }

func one(live int, age, now uint32, size int) victim.Worth {
	return victim.Worth{Live: live, Age: age, Now: now, Size: size}
}

func watch(live []int, age []uint32, now uint32, size int) victim.Watch {
	return victim.Watch{Live: live, Age: age, Now: now, Size: size}
}

// far are numbers that no size, no live and no segment may be, though their lowest bits may.
func far() []int {
	return list(-1, -2, -24, -32, -1<<8+5, -1<<32, -1<<32+5, 1<<8+5, 1<<16+5, 1<<31, 1<<32, 1<<32+5, 1<<32+24, 1<<62,
		math.MinInt, math.MinInt+1, math.MinInt+5, math.MinInt32, math.MaxInt32, math.MaxUint32, math.MaxInt-24, math.MaxInt-1, math.MaxInt)
}

// worth is what a segment is worth, as the chapter says it.
func worth(w victim.Worth) *big.Rat {
	if w.Size < 1 || w.Size > 32 || w.Live < 0 || w.Live > w.Size {
		return new(big.Rat)
	}
	since := int64(w.Now) - int64(w.Age)
	if since < 0 {
		since = 0
	}
	over := new(big.Int).Mul(big.NewInt(int64(w.Size-w.Live)), big.NewInt(since+1))
	return new(big.Rat).SetFrac(over, big.NewInt(int64(w.Size+w.Live)))
}

// aboves holds what Above tells of two, of each against itself, and that not both are above each other.
func aboves(t *testing.T, name string, a, b victim.Worth, want bool) {
	t.Helper()
	if got := victim.Above(a, b); got != want {
		t.Errorf("%s: Above %+v, %+v: %v", name, a, b, got)
	}
	if want && victim.Above(b, a) {
		t.Errorf("%s: %+v, %+v: above each other", name, a, b)
	}
	if victim.Above(a, a) || victim.Above(b, b) {
		t.Errorf("%s: %+v, %+v: above itself", name, a, b)
	}
}

// alike holds that neither of two is above the other.
func alike(t *testing.T, name string, a, b victim.Worth) {
	t.Helper()
	aboves(t, name, a, b, false)
	aboves(t, name, b, a, false)
}

// bests holds what Best tells: a segment.
func bests(t *testing.T, name string, w victim.Watch, not []int, want int) {
	t.Helper()
	if seg, ok := victim.Best(w, not); seg != want || !ok {
		t.Errorf("%s: Best %+v, %v: %v, %v, not %v", name, w, not, seg, ok, want)
	}
}

// bestsNot holds that Best tells of none, and nothing beside it.
func bestsNot(t *testing.T, name string, w victim.Watch, not []int) {
	t.Helper()
	if seg, ok := victim.Best(w, not); seg != 0 || ok {
		t.Errorf("%s: Best %+v, %v: %v, %v", name, w, not, seg, ok)
	}
}

// twos holds what Two tells.
func twos(t *testing.T, name string, live, not []int, want ...int) {
	t.Helper()
	if l := victim.Two(live, not); !slices.Equal(l, want) {
		t.Errorf("%s: Two %v, %v: %v, not %v", name, live, not, l, want)
	}
}

// each asks do of all lists of up to n that are one of from.
func each[T any](n int, from []T, do func(l []T)) {
	lists := [][]T{nil}
	for i := range n + 1 {
		var longer [][]T
		for _, l := range lists {
			do(l)
			for _, x := range from {
				if i < n {
					longer = append(longer, append(slices.Clone(l), x))
				}
			}
		}
		lists = longer
	}
}

// ranked holds Above of each pair of worths against where they stand when all are put in order.
func ranked(t *testing.T, name string, l []victim.Worth) {
	t.Helper()
	type row struct {
		w    victim.Worth
		is   *big.Rat
		rank int
	}
	var rows []row
	for _, w := range l {
		rows = append(rows, row{w: w, is: worth(w)})
	}
	sort.SliceStable(rows, func(i, j int) bool { return rows[i].is.Cmp(rows[j].is) < 0 })
	for i := 1; i < len(rows); i++ {
		rows[i].rank = rows[i-1].rank
		if rows[i].is.Cmp(rows[i-1].is) != 0 {
			rows[i].rank++
		}
	}
	for _, a := range rows {
		for _, b := range rows {
			if got := victim.Above(a.w, b.w); got != (a.rank > b.rank) {
				t.Fatalf("%s: Above %+v, %+v: %v of %v and %v", name, a.w, b.w, got, a.is, b.is)
			}
		}
	}
}

// P12.1: worths written out, the one that has more first.
func TestAbove(t *testing.T) {
	for _, x := range []struct {
		name string
		a, b victim.Worth
	}{
		{"the example", one(0, 7, 9, 24), one(5, 7, 9, 24)},
		{"one less live", one(4, 7, 9, 24), one(5, 7, 9, 24)},
		{"older by one", one(5, 6, 9, 24), one(5, 7, 9, 24)},
		{"older goes ahead of less live", one(12, 0, 99, 24), one(1, 98, 99, 24)},
		{"less live goes ahead of older", one(1, 8, 9, 24), one(20, 0, 9, 24)},
		{"48 over 24, 60 over 36", one(0, 8, 9, 24), one(12, 5, 9, 24)},
		{"23 over 25 is more than 22 over 26", one(1, 9, 9, 24), one(2, 9, 9, 24)},
		{"both are less than 1", one(30, 9, 9, 32), one(31, 9, 9, 32)},
		{"below 1, older", one(31, 3, 9, 32), one(31, 4, 9, 32)},
		{"a larger one, alike live", one(5, 7, 9, 32), one(5, 7, 9, 24)},
		{"age now less 1", one(3, 8, 9, 24), one(3, 9, 9, 24)},
		{"age now less 1, and now and 1", one(3, 8, 9, 24), one(3, 10, 9, 24)},
		{"another now", one(3, 8, 10, 24), one(3, 8, 9, 24)},
		{"size 1", one(0, 9, 9, 1), one(1, 0, 9, 1)},
		{"size 1, older", one(0, 8, 9, 1), one(0, 9, 9, 32)},
		{"size 32", one(0, 8, 9, 32), one(1, 8, 9, 32)},
		{"the greatest, and the next below it", one(0, 0, last, 32), one(0, 1, last, 32)},
		{"the greatest of size 1, and the next below it", one(0, 0, last, 1), one(0, 1, last, 24)},
		{"the greatest, and one live", one(0, 0, last, 32), one(1, 0, last, 32)},
		{"the greatest, and the least", one(0, 0, last, 1), one(31, last, last, 32)},
		{"one over many products", one(31, 62, last, 32), one(31, 63, last, 32)},
		{"all live is less than any", one(23, 99, 99, 24), one(24, 0, 99, 24)},
		{"the least there is, and none", one(31, 9, 9, 32), one(32, 0, last, 32)},
		{"the least there is, age above now, and none", one(31, last, 0, 32), one(0, 0, last, 33)},
	} {
		aboves(t, x.name, x.a, x.b, true)
		aboves(t, x.name+", turned", x.b, x.a, false)
	}
}

// P12.1: other numbers may come to the same worth.
func TestAlikeWorths(t *testing.T) {
	for _, x := range []struct {
		name string
		a, b victim.Worth
	}{
		{"itself", one(5, 7, 9, 24), one(5, 7, 9, 24)},
		{"nothing live, other sizes", one(0, 7, 9, 1), one(0, 7, 9, 32)},
		{"nothing live, other nows", one(0, 7, 9, 24), one(0, 107, 109, 24)},
		{"8 of 24 twice as old", one(8, 0, 1, 24), one(0, 1, 1, 24)},
		{"12 of 24 three times as old", one(12, 7, 9, 24), one(0, 9, 9, 24)},
		{"1 of 2, and 12 of 24", one(1, 5, 9, 2), one(12, 5, 9, 24)},
		{"8 of 32, and 6 of 24", one(8, 5, 9, 32), one(6, 5, 9, 24)},
		{"ages above now", one(3, 10, 9, 24), one(3, last, 9, 24)},
		{"age above now, and as now", one(3, 9, 9, 24), one(3, last, 9, 24)},
		{"age above now of 0", one(3, 0, 0, 24), one(3, 1, 0, 24)},
		{"the greatest, other sizes", one(0, 0, last, 1), one(0, 0, last, 32)},
		{"great ones", one(1, 0, last, 3), one(0, 1<<31, last, 24)},
		{"none: all live, other sizes", one(1, 0, last, 1), one(32, 5, 9, 32)},
		{"none: all live, and a size that may not be", one(24, 0, 9, 24), one(1, 0, 9, 0)},
		{"none: below 0, and above its size", one(-1, 0, 9, 24), one(25, 0, 9, 24)},
		{"none: sizes", one(0, 0, last, 0), one(0, 0, last, 33)},
	} {
		alike(t, x.name, x.a, x.b)
	}
}

// P12.1: the worth is 0 of a Size that is not from 1 to 32, and of a Live that is not from 0 to Size less 1.
func TestNoWorth(t *testing.T) {
	var none []victim.Worth
	add := func(live, size int) {
		for _, at := range [][]uint32{{0, 0}, {0, last}, {9, 9}, {8, 9}, {10, 9}, {last, last}, {last, 0}} {
			none = append(none, one(live, at[0], at[1], size))
		}
	}
	for _, size := range append(far(), 0, 33, 34, 64, 256, 257) {
		for _, live := range append(far(), 0, 1, 5, 31, 32, 33, size, size-1, size+1, size/2) {
			add(live, size)
		}
	}
	for size := 1; size <= 32; size++ {
		for _, live := range append(far(), -size, size, size+1, 2*size, 33, 64, 256+size/2, 1<<32+size/2) {
			if live < 0 || live >= size {
				add(live, size)
			}
		}
	}
	some := []victim.Worth{one(31, 9, 9, 32), one(31, last, 0, 32), one(0, 0, 0, 1), one(5, 7, 9, 24), one(0, 0, last, 32)}
	for i, w := range none {
		alike(t, "none", w, none[(i*7+11)%len(none)])
		alike(t, "none", w, none[0])
		for _, x := range some {
			aboves(t, "none against some", w, x, false)
			aboves(t, "some against none", x, w, true)
		}
	}
}

// P12.1: all of the chapter's edges against each other.
func TestAboveEdges(t *testing.T) {
	var l []victim.Worth
	for _, size := range list(math.MinInt, -1, 0, 1, 2, 24, 31, 32, 33, math.MaxInt) {
		var lives []int
		for _, live := range list(math.MinInt, -1, 0, 1, size-1, size, size+1, math.MaxInt) {
			if !slices.Contains(lives, live) {
				lives = append(lives, live)
			}
		}
		for _, live := range lives {
			for _, now := range ages(0, 1, 9, last-1, last) {
				for _, age := range ages(0, now, now-1, now+1, last) {
					l = append(l, one(live, age, now, size))
				}
			}
		}
	}
	ranked(t, "edges", l)
}

// P12.1: each size with each live, in several ages, against each other.
func TestAboveEachSize(t *testing.T) {
	for _, now := range ages(0, 5, last) {
		var l []victim.Worth
		for size := 1; size <= 32; size++ {
			for live := 0; live <= size; live++ {
				l = append(l, one(live, now, now, size), one(live, now/2, now, size), one(live, 0, now, size))
			}
		}
		ranked(t, "each size", l)
	}
}

// P12.1: fractions that are as near to each other as they can be are not the same, and not rounded.
func TestNearWorths(t *testing.T) {
	var l []victim.Worth
	for live := 0; live < 32; live++ {
		for by := range uint32(12) {
			l = append(l, one(live, by, last, 32), one(live, by, last, 31), one(live, last-by, last, 29))
		}
	}
	ranked(t, "near", l)
	near := 0
	for _, a := range []int{30, 31, 32} {
		for _, b := range []int{29, 31, 32} {
			near += nearPairs(t, a, b)
		}
	}
	if near == 0 {
		t.Error("no two that are near")
	}
}

// nearPairs holds pairs of great worths of two sizes whose products across differ by 1, and tells how many it found.
func nearPairs(t *testing.T, a, b int) int {
	t.Helper()
	found := 0
	for x := range a {
		for y := range b {
			p, q := int64(a-x)*int64(b+y), int64(b-y)*int64(a+x)
			for n := int64(1 << 31); n < 1<<31+q; n++ {
				m := (n*p - 1) / q
				if n*p-m*q != 1 || m < 1 || m > 1<<32 {
					continue
				}
				found++
				aboves(t, "near", one(x, uint32(1<<32-n), last, a), one(y, uint32(1<<32-m), last, b), true)
				aboves(t, "near", one(y, uint32(1<<32-m), last, b), one(x, uint32(1<<32-n), last, a), false)
			}
		}
	}
	return found
}

// P12.2: segments written out.
func TestBest(t *testing.T) {
	for _, x := range []struct {
		name string
		live []int
		age  []uint32
		not  []int
		want int
	}{
		{"one", list(5), ages(9), nil, 0},
		{"the example", list(5, 0), ages(9, 9), nil, 1},
		{"the first", list(0, 5, 3), ages(9, 9, 9), nil, 0},
		{"in the middle", list(5, 0, 3), ages(9, 9, 9), nil, 1},
		{"the last", list(5, 3, 0), ages(9, 9, 9), nil, 2},
		{"the oldest, the first", list(3, 3, 3), ages(7, 8, 9), nil, 0},
		{"the oldest, in the middle", list(3, 3, 3), ages(9, 7, 8), nil, 1},
		{"the oldest, the last", list(3, 3, 3), ages(9, 8, 7), nil, 2},
		{"older goes ahead of less live", list(5, 0, 3), ages(0, 99, 99), nil, 0},
		{"alike, the same numbers", list(9, 3, 3, 3), ages(9, 9, 9, 9), nil, 1},
		{"alike, all the same", list(3, 3, 3, 3), ages(9, 9, 9, 9), nil, 0},
		{"alike, other numbers", list(20, 8, 0), ages(100, 99, 100), nil, 1},
		{"alike, other numbers, turned", list(20, 0, 8), ages(100, 100, 99), nil, 1},
		{"alike, ages above now", list(3, 3, 3), ages(101, 100, last), nil, 0},
		{"ages above now", list(4, 3, 4), ages(last, 101, last-1), nil, 1},
		{"as now, and above now, and below", list(4, 4, 4), ages(100, 101, 99), nil, 2},
		{"more live than age", list(5, 4, 0), ages(9, 9), nil, 1},
		{"more live than age, by many", list(5, 0, 0, 0, 0, 0), ages(9), nil, 0},
		{"more age than live", list(5, 4), ages(9, 9, 0, 0), nil, 1},
		{"more age than live, by one", list(5), ages(9, 0), nil, 0},
		{"all live are passed over", list(24, 23, 24), ages(0, 99, 0), nil, 1},
		{"below 0, and above the size", list(-1, 25, 9), ages(0, 0, 99), nil, 2},
		{"all the wrong ones", list(24, 25, -1, math.MinInt, math.MaxInt, 1<<32, 23), ages(0, 0, 0, 0, 0, 0, last), nil, 6},
		{"not the best", list(5, 0, 3), ages(9, 9, 9), list(1), 2},
		{"not the best two", list(5, 0, 3), ages(9, 9, 9), list(1, 2), 0},
		{"not the best two, turned", list(5, 0, 3), ages(9, 9, 9), list(2, 1), 0},
		{"not the others", list(5, 0, 3), ages(9, 9, 9), list(0, 2), 1},
		{"not the first of several", list(3, 3, 3), ages(9, 9, 9), list(0), 1},
		{"not one that is none", list(5, 0, 3), ages(9, 9, 9), list(3, 4, 16, -1, -2, -3), 1},
		{"not those far away", list(5, 0, 3), ages(9, 9, 9), far(), 1},
		{"not those far away, and the best", list(5, 0, 3), ages(9, 9, 9), append(far(), 1), 2},
		{"not one twice", list(5, 0, 3), ages(9, 9, 9), list(1, 1), 2},
		{"not one twice, others between", list(5, 0, 3), ages(9, 9, 9), list(1, 7, 2, 1, -1, 2), 0},
		{"not one that has no age", list(5, 0, 3), ages(9, 9), list(1, 2), 0},
	} {
		bests(t, x.name, watch(x.live, x.age, 100, 24), x.not, x.want)
	}
}

// P12.2: false, if there is none.
func TestNoBest(t *testing.T) {
	for _, x := range []struct {
		name string
		live []int
		age  []uint32
		not  []int
	}{
		{"no segments", nil, nil, nil},
		{"no segments", list(), ages(), list()},
		{"no segments, some not", nil, nil, list(0, 1, -1)},
		{"no ages", list(0, 1), nil, nil},
		{"no lives", nil, ages(0, 1), nil},
		{"all in not", list(5, 0, 3), ages(9, 9, 9), list(2, 0, 1)},
		{"all in not, some twice", list(5, 0, 3), ages(9, 9, 9), list(2, 2, 0, 1, 0, 5, -1)},
		{"all with an age in not", list(5, 0, 3), ages(9, 9), list(0, 1)},
		{"all with a live in not", list(5, 0), ages(9, 9, 0), list(0, 1)},
		{"all live", list(24, 24, 24), ages(0, 9, last), nil},
		{"all live, or in not", list(24, 23, 24), ages(0, 9, last), list(1)},
		{"below 0", list(-1, -24, math.MinInt), ages(0, 9, last), nil},
		{"above the size", list(25, 26, math.MaxInt), ages(0, 9, last), nil},
	} {
		bestsNot(t, x.name, watch(x.live, x.age, 100, 24), x.not)
	}
	for _, size := range append(far(), 0, 33, 34, 64, 256, 257) {
		lives := append(far(), 0, 1, 24, 31, 32, 33, size-1, size, size+1)
		for _, live := range lives {
			bestsNot(t, "no size", watch(list(live), ages(0), last, size), nil)
		}
		bestsNot(t, "no size", watch(lives, make([]uint32, len(lives)), last, size), nil)
	}
}

// P12.2: sizes that may be, and each of a size's lives.
func TestBestOfEachSize(t *testing.T) {
	for size := 1; size <= 32; size++ {
		bests(t, "nothing live", watch(list(0), ages(9), 9, size), nil, 0)
		bests(t, "all but one live", watch(list(size-1), ages(9), 9, size), nil, 0)
		bestsNot(t, "one more live than there are", watch(list(size+1), ages(0), 9, size), nil)
		var live []int
		for n := range size + 3 {
			live = append(live, size+1-n)
		}
		age := slices.Repeat(ages(9), len(live))
		var not []int
		for want := size + 1; want >= 2; want-- {
			bests(t, "falling", watch(live, age, 9, size), not, want)
			not = append(not, want)
		}
		bestsNot(t, "falling", watch(live, age, 9, size), not)
	}
}

// choice are the segments that Best may choose from.
func choice(w victim.Watch, not []int) []int {
	var l []int
	for seg := range min(len(w.Live), len(w.Age)) {
		if x := one(w.Live[seg], w.Age[seg], w.Now, w.Size); !slices.Contains(not, seg) && worth(x).Sign() > 0 {
			l = append(l, seg)
		}
	}
	return l
}

// together holds Best and Above against each other.
func together(t *testing.T, w victim.Watch, not []int) {
	t.Helper()
	from := choice(w, not)
	best, ok := victim.Best(w, not)
	if len(from) == 0 {
		if best != 0 || ok {
			t.Fatalf("%+v, %v: %v, %v of none", w, not, best, ok)
		}
		return
	}
	if !ok || !slices.Contains(from, best) {
		t.Fatalf("%+v, %v: %v, %v, not one of %v", w, not, best, ok, from)
	}
	most := one(w.Live[best], w.Age[best], w.Now, w.Size)
	for _, seg := range from {
		x := one(w.Live[seg], w.Age[seg], w.Now, w.Size)
		if victim.Above(x, most) || seg < best && !victim.Above(most, x) {
			t.Fatalf("%+v, %v: %v, but %v has more, or as much ahead of it", w, not, best, seg)
		}
	}
}

// P12.1, P12.2: all lists of some segments, with each of them in not or out of it.
func TestBestIsAbove(t *testing.T) {
	type seg struct {
		live int
		age  uint32
	}
	var from []seg
	for _, live := range list(-1, 0, 8, 23, 24, 25) {
		for _, age := range ages(8, 9, last) {
			from = append(from, seg{live, age})
		}
	}
	each(3, from, func(l []seg) {
		w := watch(nil, nil, 9, 24)
		for _, x := range l {
			w.Live, w.Age = append(w.Live, x.live), append(w.Age, x.age)
		}
		for bits := range 1 << len(l) {
			not := list(-1, len(l))
			for i := range l {
				if bits>>i&1 == 1 {
					not = append(not, i)
				}
			}
			together(t, w, not)
		}
	})
}

// P12.1, P12.2: many segments, as they go round.
func TestBestOfMany(t *testing.T) {
	for _, size := range list(1, 2, 23, 24, 31, 32, 33) {
		for _, now := range ages(0, 100, last) {
			for by := 1; by < 60; by++ {
				w := watch(nil, nil, now, size)
				var not []int
				for i := range 16 {
					w.Live = append(w.Live, (i*by+3)%(size+2)-by%2)
					w.Age = append(w.Age, now-uint32(i*i*by%40)+uint32(by%3))
					if i*by%5 == 0 {
						not = append(not, i)
					}
				}
				together(t, w, nil)
				together(t, w, not)
				together(t, watch(w.Live[:11], w.Age, now, size), not)
				together(t, watch(w.Live, w.Age[:11], now, size), not)
			}
		}
	}
}

// P12.3: a segment all of which is live is never the best, be it as old as can be, and alone.
func TestAllLiveIsNeverBest(t *testing.T) {
	for size := 1; size <= 32; size++ {
		for _, now := range ages(0, 9, last) {
			bestsNot(t, "alone", watch(list(size), ages(0), now, size), nil)
			bestsNot(t, "several", watch(list(size, size, size), ages(0, now, last), now, size), nil)
			for at := range 4 {
				live, age := slices.Repeat(list(size), 4), make([]uint32, 4)
				live[at], age[at] = size-1, last
				bests(t, "beside one that is not", watch(live, age, now, size), nil, at)
				bestsNot(t, "beside one in not", watch(live, age, now, size), list(at))
			}
		}
	}
}

// P12.2: segments written out.
func TestTwo(t *testing.T) {
	twos(t, "no segments", nil, nil)
	twos(t, "no segments", list(), list())
	twos(t, "no segments, some not", nil, list(0, 1, -1))
	twos(t, "one", list(5), nil, 0)
	twos(t, "one, in not", list(5), list(0))
	twos(t, "two", list(5, 6), nil, 0, 1)
	twos(t, "two, turned", list(6, 5), nil, 1, 0)
	twos(t, "two, one in not", list(6, 5), list(1), 0)
	twos(t, "two, both in not", list(6, 5), list(1, 0))
	twos(t, "two alike", list(5, 5), nil, 0, 1)

	twos(t, "many", list(9, 4, 8, 3, 7), nil, 3, 1)
	twos(t, "the first and the last", list(1, 9, 8, 2), nil, 0, 3)
	twos(t, "the last and the first", list(2, 9, 8, 1), nil, 3, 0)
	twos(t, "the first two", list(1, 2, 8, 9), nil, 0, 1)
	twos(t, "the first two, turned", list(2, 1, 8, 9), nil, 1, 0)
	twos(t, "the last two", list(8, 9, 1, 2), nil, 2, 3)
	twos(t, "the last two, turned", list(8, 9, 2, 1), nil, 3, 2)
	twos(t, "rising", list(1, 2, 3, 4, 5), nil, 0, 1)
	twos(t, "falling", list(5, 4, 3, 2, 1), nil, 4, 3)

	twos(t, "all alike", list(7, 7, 7, 7), nil, 0, 1)
	twos(t, "all 0", list(0, 0, 0, 0), nil, 0, 1)
	twos(t, "two of the same least", list(5, 1, 3, 1), nil, 1, 3)
	twos(t, "three of the same least", list(5, 1, 1, 1), nil, 1, 2)
	twos(t, "one least, several next", list(3, 3, 1, 3), nil, 2, 0)
	twos(t, "one least ahead, several next", list(1, 5, 3, 3), nil, 0, 2)

	twos(t, "below 0", list(5, -1, 3), nil, 2, 0)
	twos(t, "below 0, far", list(math.MinInt, 5, math.MinInt32, 3, -1<<32, 4), nil, 3, 5)
	twos(t, "all below 0", list(-1, -2, math.MinInt), nil)
	twos(t, "all but one below 0", list(-1, 0, math.MinInt), nil, 1)
	twos(t, "great ones", list(math.MaxInt, math.MaxInt-1, math.MaxInt), nil, 1, 0)
	twos(t, "the greatest alone", list(math.MaxInt, math.MinInt), nil, 0)
	twos(t, "beyond 32 bits", list(1<<32, 1<<32+1, 1, 1<<33), nil, 2, 0)

	twos(t, "one in not", list(5, 1, 3, 1), list(3), 1, 2)
	twos(t, "the least in not", list(5, 1, 3, 1), list(1, 3), 2, 0)
	twos(t, "all in not", list(5, 1, 3, 1), list(3, 1, 0, 2))
	twos(t, "all but one in not", list(5, 1, 3, 1), list(3, 1, 2), 0)
	twos(t, "all but those below 0 in not", list(5, -1, -3, 1), list(0, 3))
	twos(t, "not one that is none", list(5, 1, 3, 1), list(4, 5, 9, -1, -3, -4), 1, 3)
	twos(t, "not those far away", list(5, 1, 3, 1), far(), 1, 3)
	twos(t, "not those far away, and one", list(5, 1, 3, 1), append(far(), 1), 3, 2)
	twos(t, "not one twice", list(5, 1, 3, 1), list(1, 1), 3, 2)
	twos(t, "not one twice, others between", list(5, 1, 3, 1), list(1, 9, 3, 1, -1, 3), 2, 0)
}

// least are the two that Two is to tell: all that it may choose from, put in order.
func least(live, not []int) []int {
	var l []int
	for seg, n := range live {
		if n >= 0 && !slices.Contains(not, seg) {
			l = append(l, seg)
		}
	}
	sort.SliceStable(l, func(i, j int) bool { return live[l[i]] < live[l[j]] })
	return l[:min(2, len(l))]
}

// P12.2: all lists of some numbers, with each segment in not or out of it.
func TestTwoOfAll(t *testing.T) {
	each(5, list(-1, 0, 1, 2, math.MaxInt), func(live []int) {
		for bits := range 1 << len(live) {
			var not []int
			for i := range live {
				if bits>>i&1 == 1 {
					not = append(not, i)
				}
			}
			twos(t, "all of some", live, not, least(live, not)...)
		}
	})
}

// P12.2: lists may be longer than a store's segments, not as well.
func TestLong(t *testing.T) {
	for _, n := range list(16, 17, 64, 255, 256, 257, 1<<16+1, 1<<18) {
		live := slices.Repeat(list(7), n)
		age := slices.Repeat(ages(9), n)
		var not []int
		for seg := range n {
			if seg != n-3 && seg != n-2 {
				not = append(not, seg)
			}
		}
		twos(t, "long", live, nil, 0, 1)
		twos(t, "long, but two in not", live, not, n-3, n-2)
		bests(t, "long", watch(live, age, 9, 24), nil, 0)
		bests(t, "long, but two in not", watch(live, age, 9, 24), not, n-3)
		live[n-1], age[n/2] = 6, 8
		twos(t, "long, the last is the least", live, nil, n-1, 0)
		bests(t, "long, one is older", watch(live, age, 9, 24), nil, n/2)
		bestsNot(t, "long, all live", watch(live, age, 9, 7), append(not, n-3, n-2))
		bests(t, "long, not is longer", watch(list(5, 3), ages(9, 9), 9, 24), not[1:], 0)
	}
}

// Rule 2: no call changes what it is given, nor its spare room.
func TestNothingChanged(t *testing.T) {
	room := list(4, 0, 1, -6, 0, 8, 24, -3, 77, 2, 2, 25, 3, 4, 1<<40, 0)
	born := ages(4, 0, 1, 6, 0, 8, 24, 3, 77, 2, 2, last, 3, 4, 1<<31, 0)
	was, wasBorn := slices.Clone(room), slices.Clone(born)
	for i := range len(room) + 1 {
		for j := range i + 1 {
			l := room[j:i]
			for k := range len(room) + 1 {
				victim.Two(l, room[k:])
				victim.Two(room[:k], l)
				victim.Best(watch(l, born[:k], 9, 24), room[k:])
				victim.Best(watch(room[k:], born, 9, 24), l)
				victim.Best(watch(l, born[j:i], 9, 33), l)
			}
			if !slices.Equal(room, was) || !slices.Equal(born, wasBorn) {
				t.Fatalf("%v to %v: %v, %v, not %v, %v", j, i, room, born, was, wasBorn)
			}
		}
	}
}

// fill overwrites a list, and its spare room.
func fill(l []int) {
	l = l[:cap(l)]
	for i := range l {
		l[i] = -5000 - i
	}
}

// Rule 2: what Two tells shares no memory with what is handed in, nor with another answer, its spare room too.
func TestNewMemory(t *testing.T) {
	for _, x := range []struct{ live, not []int }{
		{nil, nil}, {list(5), nil}, {list(5, 1), nil}, {list(0, 1), list()}, {list(0, 1, 2), list(0, 1)}, {list(1, 0), list(1, 0)},
		{list(5, 1, 3, 1), list(3)}, {list(5, -1, 3), nil}, {list(0, 1, 2, 3, 4, 5, 6, 7, 8), list(5, 6, 7, 8)},
	} {
		live, not := append(make([]int, 0, 20), x.live...), append(make([]int, 0, 20), x.not...)
		want := least(x.live, x.not)
		first, second := victim.Two(live, not), victim.Two(live, not)
		fill(first)
		if !slices.Equal(second, want) || !slices.Equal(live, x.live) || !slices.Equal(not, x.not) {
			t.Errorf("%v, %v: shared: %v, %v, %v", x.live, x.not, second, live, not)
		}
		fill(second)
		third := victim.Two(live, not)
		fill(live)
		fill(not)
		if !slices.Equal(third, want) {
			t.Errorf("%v, %v: shared: %v", x.live, x.not, third)
		}
	}
}

// Rule 4: what was asked before changes no answer.
func TestAnswersStay(t *testing.T) {
	for range 3 {
		bests(t, "some", watch(list(5, 0, 3), ages(9, 9, 9), 100, 24), nil, 1)
		bestsNot(t, "none", watch(nil, nil, 0, 0), nil)
		bests(t, "not the best", watch(list(5, 0, 3), ages(9, 9, 9), 100, 24), list(1), 2)
		bestsNot(t, "all live", watch(list(24), ages(0), 100, 24), nil)
		twos(t, "some", list(5, 1, 3, 1), nil, 1, 3)
		twos(t, "none", nil, list(1))
		twos(t, "not the least", list(5, 1, 3, 1), list(1), 3, 2)
		aboves(t, "more", one(0, 7, 9, 24), one(5, 7, 9, 24), true)
		aboves(t, "less", one(5, 7, 9, 24), one(0, 7, 9, 24), false)
		alike(t, "none", one(0, 7, 9, 33), one(24, 7, 9, 24))
	}
}
