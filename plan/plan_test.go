package plan_test

import (
	"math"
	"testing"

	"silt/api"
	"silt/plan"
)

func geom(pages, segs, segLen, frames int) api.Geom {
	return api.Geom{Pages: pages, Segs: segs, SegLen: segLen, Frames: frames}
}

// parts are a geometry's, each with its least and its most as the chapter and api have them.
func parts() []struct {
	name        string
	least, most int
	set         func(g *api.Geom, n int)
} {
	return []struct {
		name        string
		least, most int
		set         func(g *api.Geom, n int)
	}{
		{"Pages", 1, 64, func(g *api.Geom, n int) { g.Pages = n }},
		{"Segs", 6, 16, func(g *api.Geom, n int) { g.Segs = n }},
		{"SegLen", 24, 32, func(g *api.Geom, n int) { g.SegLen = n }},
		{"Frames", 2, 16, func(g *api.Geom, n int) { g.Frames = n }},
	}
}

// bases are geometries that may be: the least of all parts, the most, and some between.
func bases() []api.Geom {
	return []api.Geom{geom(1, 6, 24, 2), geom(64, 16, 32, 16), geom(16, 8, 24, 4), geom(9, 11, 29, 7), geom(64, 6, 24, 2), geom(1, 16, 32, 16)}
}

// wrong are geometries with one part, or more, that may not be.
func wrong() []api.Geom {
	var l []api.Geom
	for _, g := range bases() {
		for _, p := range parts() {
			for _, n := range []int{p.least - 1, p.most + 1, 0, -1, -p.least, -p.most, math.MinInt, math.MinInt + p.least, math.MinInt32, math.MaxInt, math.MaxInt - p.least,
				math.MaxInt32, 1<<8 + p.least, 1<<16 + p.least, 1<<32 + p.least, 1<<32 + p.most, 1 << 62} {
				if n >= p.least && n <= p.most {
					continue
				}
				bad := g
				p.set(&bad, n)
				l = append(l, bad)
			}
		}
	}
	for _, n := range []int{math.MinInt, -1, 0, 1, 17, 64, 65, math.MaxInt} {
		l = append(l, geom(n, n, n, n))
	}
	return append(l, api.Geom{}, geom(0, 5, 23, 1), geom(65, 17, 33, 17), geom(-16, -8, 24, 4), geom(16, -8, -24, 4))
}

func eachShape(do func(g api.Geom)) {
	for segs := 6; segs <= 16; segs++ {
		for segLen := 24; segLen <= 32; segLen++ {
			for _, pages := range []int{1, 8, 9, 63, 64} {
				do(geom(pages, segs, segLen, 2+(segs+segLen+pages)%15))
			}
		}
	}
}

// P3.1: Good, at the edges of each part.
func TestGood(t *testing.T) {
	for _, g := range bases() {
		if !plan.Good(g) {
			t.Errorf("%+v may be", g)
		}
		for _, p := range parts() {
			for n := p.least - 2; n <= p.most+2; n++ {
				x := g
				p.set(&x, n)
				if may := n >= p.least && n <= p.most; plan.Good(x) != may {
					t.Errorf("%s of %d: %v", p.name, n, !may)
				}
			}
		}
	}
	for _, g := range wrong() {
		if plan.Good(g) {
			t.Errorf("%+v may not be", g)
		}
	}
}

// P3.1, P3.2: of a geometry that may not be, all others answer nothing.
func TestOfNoGeometry(t *testing.T) {
	places := []int{math.MinInt, -1, 0, 1, 3, 4, 5, 27, 28, 147, 148, 515, 516, math.MaxInt}
	for _, g := range wrong() {
		if m, n, c := plan.Maps(g), plan.Total(g), plan.Cap(g); m != 0 || n != 0 || c != 0 {
			t.Errorf("%+v: Maps %d, Total %d, Cap %d", g, m, n, c)
		}
		for _, p := range places {
			if n := plan.Seg(g, p); n != 0 {
				t.Errorf("%+v: Seg %d: %d", g, p, n)
			}
			if seg, off, ok := plan.Of(g, p); seg != 0 || off != 0 || ok {
				t.Errorf("%+v: Of %d: %d, %d, %v", g, p, seg, off, ok)
			}
		}
	}
}

// P3.1: Maps, MapLen pages to each, the last one with what is left.
func TestMaps(t *testing.T) {
	for _, x := range []struct{ pages, maps int }{{1, 1}, {2, 1}, {7, 1}, {8, 1}, {9, 2}, {15, 2}, {16, 2}, {17, 3}, {56, 7}, {57, 8}, {63, 8}, {64, 8}} {
		if n := plan.Maps(geom(x.pages, 6, 24, 2)); n != x.maps {
			t.Errorf("Maps of %d pages: %d, not %d", x.pages, n, x.maps)
		}
	}
	for pages := 1; pages <= 64; pages++ {
		maps := 0
		for left := pages; left > 0; left -= 8 {
			maps++
		}
		for segs := 6; segs <= 16; segs++ {
			if n := plan.Maps(geom(pages, segs, 24+segs%9, segs)); n != maps {
				t.Errorf("Maps of %d pages and %d segments: %d, not %d", pages, segs, n, maps)
			}
		}
	}
}

// P3.1: Total.
func TestTotal(t *testing.T) {
	for _, x := range []struct{ segs, segLen, total int }{{6, 24, 148}, {8, 24, 196}, {16, 24, 388}, {6, 32, 196}, {16, 32, 516}, {7, 25, 179}, {11, 29, 323}} {
		for _, pages := range []int{1, 16, 64} {
			for _, frames := range []int{2, 16} {
				if n := plan.Total(geom(pages, x.segs, x.segLen, frames)); n != x.total {
					t.Errorf("Total of %d segments of %d: %d, not %d", x.segs, x.segLen, n, x.total)
				}
			}
		}
	}
}

// P3.1: Seg, at the first segment, the last one, and beside them.
func TestSeg(t *testing.T) {
	for _, x := range []struct{ segs, segLen, s, at int }{
		{8, 24, 0, 4}, {8, 24, 1, 28}, {8, 24, 2, 52}, {8, 24, 7, 172}, {6, 32, 0, 4}, {6, 32, 5, 164}, {16, 32, 15, 484}, {16, 24, 1, 28}, {7, 25, 6, 154},
	} {
		if at := plan.Seg(geom(16, x.segs, x.segLen, 4), x.s); at != x.at {
			t.Errorf("Seg %d of %d of %d: %d, not %d", x.s, x.segs, x.segLen, at, x.at)
		}
	}
	eachShape(func(g api.Geom) {
		for _, s := range []int{math.MinInt, math.MinInt32, -g.Segs, -1, g.Segs, g.Segs + 1, 1 << 32, 1<<32 + 1, 1 << 62, math.MaxInt} {
			if at := plan.Seg(g, s); at != 0 {
				t.Errorf("%+v: Seg %d: %d", g, s, at)
			}
		}
		if last := plan.Seg(g, g.Segs-1); last+g.SegLen != plan.Total(g) {
			t.Errorf("%+v: the last segment begins at %d, and not all ends with it", g, last)
		}
	})
}

// P3.1: Of, at the edges of regions, segments and device.
func TestOfEdges(t *testing.T) {
	g := geom(16, 8, 24, 4)
	for _, x := range []struct {
		place, seg, off int
		ok              bool
	}{
		{-1, 0, 0, false}, {0, 0, 0, false}, {1, 0, 0, false}, {2, 0, 0, false}, {3, 0, 0, false},
		{4, 0, 0, true}, {5, 0, 1, true}, {27, 0, 23, true}, {28, 1, 0, true}, {29, 1, 1, true}, {51, 1, 23, true}, {52, 2, 0, true},
		{171, 6, 23, true}, {172, 7, 0, true}, {194, 7, 22, true}, {195, 7, 23, true}, {196, 0, 0, false}, {197, 0, 0, false}, {220, 0, 0, false},
		{-4, 0, 0, false}, {-28, 0, 0, false}, {math.MinInt, 0, 0, false}, {math.MinInt + 4, 0, 0, false}, {1<<32 + 4, 0, 0, false}, {math.MaxInt, 0, 0, false},
	} {
		if seg, off, ok := plan.Of(g, x.place); seg != x.seg || off != x.off || ok != x.ok {
			t.Errorf("Of %d: %d, %d, %v, not %d, %d, %v", x.place, seg, off, ok, x.seg, x.off, x.ok)
		}
	}
}

// P3.1: Of every sector, told by going through the device one by one.
func TestOfAll(t *testing.T) {
	eachShape(func(g api.Geom) {
		at := 0
		in := func(seg, off int, ok bool) {
			if s, o, k := plan.Of(g, at); s != seg || o != off || k != ok {
				t.Errorf("%+v: Of %d: %d, %d, %v, not %d, %d, %v", g, at, s, o, k, seg, off, ok)
			}
			at++
		}
		for range 4 {
			in(0, 0, false)
		}
		for s := range g.Segs {
			if n := plan.Seg(g, s); n != at {
				t.Errorf("%+v: Seg %d: %d, not %d", g, s, n, at)
			}
			for off := range g.SegLen {
				in(s, off, true)
			}
		}
		if n := plan.Total(g); n != at {
			t.Errorf("%+v: Total %d, not %d", g, n, at)
		}
		for range 2 * g.SegLen {
			in(0, 0, false)
		}
	})
}

// P3.2: Cap, worked out by hand: rounded down, at most Pages, at least 0.
func TestCap(t *testing.T) {
	for _, x := range []struct{ pages, segs, cap int }{
		{16, 8, 4},   // 14 by 3
		{64, 16, 13}, // 40 by 3
		{64, 6, 0},   // 0 by 3
		{57, 6, 0},
		{56, 6, 0}, // 1 by 3
		{48, 6, 0}, // 2 by 3
		{40, 6, 1}, // 3 by 3
		{41, 6, 0}, // 2 by 3
		{8, 6, 2},  // 7 by 3
		{9, 6, 2},  // 6 by 3
		{17, 6, 1}, // 5 by 3
		{64, 7, 1}, // 4 by 3
		{1, 6, 1},  // 7 by 3: above Pages
		{2, 6, 2},
		{3, 6, 2},
		{1, 16, 1}, // 47 by 3: above Pages
		{2, 16, 2},
		{8, 16, 8},
		{14, 16, 14}, // 46 by 3: above Pages
		{15, 16, 15}, // 46 by 3: Pages
		{16, 16, 15}, // 46 by 3: below Pages
		{17, 16, 15}, // 45 by 3
		{25, 16, 14}, // 44 by 3
	} {
		for _, segLen := range []int{24, 32} {
			if n := plan.Cap(geom(x.pages, x.segs, segLen, 2)); n != x.cap {
				t.Errorf("Cap of %d pages and %d segments: %d, not %d", x.pages, x.segs, n, x.cap)
			}
		}
	}
}

// P3.2: Cap is never below 0: the least that a geometry that may be comes to is 0, and one that would come to less may not be.
func TestCapIsNotBelowNone(t *testing.T) {
	for _, g := range []api.Geom{geom(64, 6, 24, 2), geom(57, 6, 32, 16), geom(64, 5, 24, 2), geom(1, 4, 24, 2), geom(64, 4, 32, 16), geom(64, 0, 24, 2), geom(64, -1, 24, 2), geom(64, math.MinInt, 24, 2)} {
		if n := plan.Cap(g); n != 0 {
			t.Errorf("Cap of %+v: %d", g, n)
		}
	}
}

// P3.2: Cap of all, by counting up as long as one more page goes.
func TestCapAll(t *testing.T) {
	for pages := 1; pages <= 64; pages++ {
		for segs := 6; segs <= 16; segs++ {
			room := -((pages + 7) / 8)
			for range segs - 4 {
				room += 4
			}
			cap := 0
			for cap < pages && 3*(cap+1) <= room {
				cap++
			}
			for _, frames := range []int{2, 9, 16} {
				if n := plan.Cap(geom(pages, segs, 24+pages%9, frames)); n != cap {
					t.Errorf("Cap of %d pages and %d segments: %d, not %d", pages, segs, n, cap)
				}
			}
		}
	}
}

// P3.3: no two segments have a sector in common, none has one of a region, and all end with the device.
func TestSegmentsAreApart(t *testing.T) {
	eachShape(func(g api.Geom) {
		owner := make([]int, plan.Total(g))
		for i := range 4 {
			owner[i] = -1
		}
		for s := range g.Segs {
			for off := range g.SegLen {
				at := plan.Seg(g, s) + off
				if at < 0 || at >= len(owner) {
					t.Fatalf("%+v: segment %d has sector %d of %d", g, s, at, len(owner))
				}
				if owner[at] != 0 {
					t.Errorf("%+v: segment %d has sector %d, as %d has (-2: a region)", g, s, at, owner[at]-1)
				}
				owner[at] = s + 1
				if seg, o, ok := plan.Of(g, at); seg != s || o != off || !ok {
					t.Errorf("%+v: sector %d of segment %d is told as %d of %d, %v", g, off, s, o, seg, ok)
				}
			}
		}
		for at, s := range owner {
			if s == 0 {
				t.Errorf("%+v: sector %d is nobody's", g, at)
			}
		}
	})
}

// Rule 4: what is answered hangs on the arguments alone.
func TestAnswersStay(t *testing.T) {
	g := geom(16, 8, 24, 4)
	for _, other := range append(bases(), wrong()...) {
		plan.Good(other)
		plan.Total(other)
		plan.Cap(other)
		plan.Seg(other, 3)
		plan.Of(other, 100)
		seg, off, ok := plan.Of(g, 100)
		if !plan.Good(g) || plan.Maps(g) != 2 || plan.Total(g) != 196 || plan.Cap(g) != 4 || plan.Seg(g, 3) != 76 || seg != 4 || off != 0 || !ok {
			t.Errorf("behind %+v: another answer", other)
		}
	}
}
