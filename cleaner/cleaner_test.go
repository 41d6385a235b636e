package cleaner_test

import (
	"maps"
	"math"
	"slices"
	"testing"

	"silt/anchor"
	"silt/api"
	"silt/block"
	"silt/cleaner"
	"silt/core"
	"silt/dev"
	"silt/journal"
	"silt/recover"
)

func list(l ...int) []int { return l }

// geom is the geometry of most tests: 28 pages, of which 12 may be allocated, in four mapping pages.
func geom() api.Geom { return api.Geom{Pages: 28, Segs: 14, SegLen: 25, Frames: 4} }

// shapes are geometries that may be, at the edges and between; in one of them no page may be allocated.
func shapes() []api.Geom {
	return []api.Geom{
		geom(), {Pages: 1, Segs: 6, SegLen: 24, Frames: 2}, {Pages: 64, Segs: 16, SegLen: 32, Frames: 16}, {Pages: 64, Segs: 6, SegLen: 24, Frames: 3},
		{Pages: 16, Segs: 8, SegLen: 24, Frames: 4}, {Pages: 40, Segs: 7, SegLen: 31, Frames: 3}, {Pages: 9, Segs: 16, SegLen: 25, Frames: 5}, {Pages: 64, Segs: 9, SegLen: 24, Frames: 3},
		{Pages: 3, Segs: 6, SegLen: 24, Frames: 2}, {Pages: 17, Segs: 16, SegLen: 24, Frames: 4},
	}
}

// total, place, segOf, count and most are counted here, apart from plan: all sectors, sector off of segment seg, a place's segment, how many mapping pages, how many pages may be allocated.
func total(g api.Geom) int { return 4 + g.Segs*g.SegLen }

func place(g api.Geom, seg, off int) int { return 4 + seg*g.SegLen + off }

func segOf(g api.Geom, place int) int { return (place - 4) / g.SegLen }

func count(g api.Geom) int { return (g.Pages + 7) / 8 }

func most(g api.Geom) int { return max(0, min(g.Pages, (4*(g.Segs-4)-count(g))/3)) }

func whole(id int, bytes ...byte) core.Want {
	w := core.Want{Id: id, Kind: api.Image}
	copy(w.Now[:], bytes)
	return w
}

func alloc(id int) core.Want { return core.Want{Id: id, Kind: api.Alloc} }

func free(id int) core.Want { return core.Want{Id: id, Kind: api.Free} }

// pick tells numbers by turns from a seed on.
func pick(seed uint32) func(n int) int {
	return func(n int) int {
		seed = seed*1664525 + 1013904223
		return int(seed>>8) % n
	}
}

// world is a core, and the device that it is at.
type world struct {
	d *dev.Dev
	c *core.Core
}

// formatted is a new core.
func formatted(t *testing.T, g api.Geom) world {
	t.Helper()
	d, _ := dev.New(total(g))
	c, e := core.Format(d, g)
	if e != api.OK {
		t.Fatalf("%+v: %d", g, e)
	}
	return world{d, c}
}

// opened is what stands on a device behind a crash that keeps some of the loose writes.
func opened(t *testing.T, name string, d *dev.Dev, keep []byte) world {
	t.Helper()
	d.Crash(keep)
	c, e := core.Open(d)
	if e != api.OK {
		t.Fatalf("%s: Open: %d", name, e)
	}
	return world{d, c}
}

func (w world) commits(t *testing.T, l ...core.Want) {
	t.Helper()
	if e := w.c.Commit(l); e != api.OK {
		t.Fatalf("Commit of %+v: %d at %+v", l, e, w.c.State().At)
	}
}

func (w world) checkpoints(t *testing.T, l ...int) {
	t.Helper()
	if e := w.c.Checkpoint(l); e != api.OK {
		t.Fatalf("Checkpoint of %v: %d at %+v", l, e, w.c.State().At)
	}
}

// runsOut writes marks that change nothing till the segment that is written has no more room than that.
func (w world) runsOut(t *testing.T, room int) {
	t.Helper()
	for s := w.c.State(); s.Region.SegLen-s.At.Off > room; s = w.c.State() {
		w.commits(t, free(s.Region.Pages-1))
	}
}

// stands holds how many segments are free, and where the core writes on.
func (w world) stands(t *testing.T, name string, seg, off int, free ...int) {
	t.Helper()
	if at := w.c.State().At; at.Seg != seg || at.Off != off || !slices.Equal(at.Free, free) {
		t.Errorf("%s: at %+v, not in segment %d at %d, %v free", name, at, seg, off, free)
	}
}

func frees(c *core.Core) int { return len(c.State().At.Free) }

// sectors are all of a device, as they are read.
func sectors(d *dev.Dev) []api.Sector {
	l := make([]api.Sector, d.Len())
	for i := range l {
		l[i], _ = d.Read(i)
	}
	return l
}

// pagesOf is all pages, as they are.
func pagesOf(c *core.Core) map[int]api.Page {
	l := map[int]api.Page{}
	for id, head := range c.State().Heads {
		if x, e := c.Chain(id); e == api.OK {
			l[id] = x.Page
		} else if head != api.NoPage {
			l[-id-1] = x.Page // one that can't be read is another than any
		}
	}
	return l
}

func same(a, b recover.State) bool {
	return a.Region == b.Region && slices.Equal(a.Heads, b.Heads) && slices.Equal(a.Old, b.Old) && sameAt(a.At, b.At)
}

func sameAt(a, b journal.At) bool {
	return a.Seg == b.Seg && a.Off == b.Off && a.Seq == b.Seq && slices.Equal(a.Free, b.Free)
}

// alike holds that two worlds are the same in all that they tell.
func alike(t *testing.T, name string, a, b world) {
	t.Helper()
	if x, y := a.c.State(), b.c.State(); !same(x, y) {
		t.Errorf("%s: state %+v, not %+v", name, x, y)
	}
	if x, y := a.c.Ages(), b.c.Ages(); !slices.Equal(x, y) {
		t.Errorf("%s: ages %v, not %v", name, x, y)
	}
	if a.c.Dead() != b.c.Dead() || a.d.Done() != b.d.Done() || a.d.Loose() != b.d.Loose() {
		t.Errorf("%s: dead %v, not %v; %d done, not %d; %d loose, not %d", name, a.c.Dead(), b.c.Dead(), a.d.Done(), b.d.Done(), a.d.Loose(), b.d.Loose())
	}
	if !slices.Equal(sectors(a.d), sectors(b.d)) {
		t.Errorf("%s: the devices differ", name)
	}
	if x, y := pagesOf(a.c), pagesOf(b.c); !maps.Equal(x, y) {
		t.Errorf("%s: pages %v, not %v", name, x, y)
	}
}

// stays holds that a core and its device are as they were, whatever is asked.
func (w world) stays(t *testing.T, name string, ask func()) {
	t.Helper()
	state, ages, dead, disk, done, loose := w.c.State(), w.c.Ages(), w.c.Dead(), sectors(w.d), w.d.Done(), w.d.Loose()
	ask()
	if !same(state, w.c.State()) || !slices.Equal(ages, w.c.Ages()) || dead != w.c.Dead() {
		t.Errorf("%s: %+v, was %+v", name, w.c.State(), state)
	}
	if !slices.Equal(disk, sectors(w.d)) || done != w.d.Done() || loose != w.d.Loose() {
		t.Errorf("%s: the device is changed", name)
	}
}

// The calls once more, as the chapter has them, counted another way: what a core and its device are behind a call is held against these.

// blocks is of each segment the pages and the mapping pages that stand there, one for each block.
func blocks(c *core.Core) (pages, roots [][]int) {
	s := c.State()
	pages, roots = make([][]int, s.Region.Segs), make([][]int, s.Region.Segs)
	for id := range s.Heads {
		x, _ := c.Chain(id)
		for _, at := range x.Places {
			seg := segOf(s.Region.Geom, at)
			pages[seg] = append(pages[seg], id)
		}
	}
	for id, at := range s.Region.Roots {
		if at >= 4 {
			seg := segOf(s.Region.Geom, at)
			roots[seg] = append(roots[seg], id)
		}
	}
	return pages, roots
}

// rising is all of these, each once.
func rising(l ...[]int) []int {
	all := slices.Concat(l...)
	slices.Sort(all)
	return slices.Compact(all)
}

// standing is what stands in these segments.
func standing(c *core.Core, segs ...int) (pages, maps []int) {
	p, r := blocks(c)
	for seg := range p {
		if slices.Contains(segs, seg) {
			pages, maps = rising(pages, p[seg]), rising(maps, r[seg])
		}
	}
	return pages, maps
}

// cleanable is the segments that are neither free nor written, those of least live first; and of all how much is live.
func cleanable(c *core.Core) (segs, live []int) {
	pages, roots := blocks(c)
	at := c.State().At
	for seg := range pages {
		live = append(live, len(pages[seg])+len(roots[seg]))
		if seg != at.Seg && !slices.Contains(at.Free, seg) {
			segs = append(segs, seg)
		}
	}
	slices.SortStableFunc(segs, func(a, b int) int { return live[a] - live[b] })
	return segs, live
}

func round(c *core.Core) api.Errno {
	segs, _ := cleanable(c)
	pages, maps := standing(c, segs[:min(2, len(segs))]...)
	if e := c.Move(pages); e != api.OK {
		return e
	}
	return c.Checkpoint(maps)
}

func room(c *core.Core) api.Errno {
	for range 4 * c.State().Region.Segs {
		if frees(c) >= 3 {
			return api.OK
		}
		if e := round(c); e != api.OK {
			return e
		}
	}
	if frees(c) < 3 {
		return api.ErrSpace
	}
	return api.OK
}

// worthiest is the segment of most worth; -1, if none has any.
func worthiest(c *core.Core) int {
	s, ages := c.State(), c.Ages()
	segs, live := cleanable(c)
	slices.Sort(segs)
	best, over, under := -1, 0, 1
	for _, seg := range segs {
		o := (s.Region.SegLen - live[seg]) * (int(s.At.Seq) - int(ages[seg]) + 1)
		u := s.Region.SegLen + live[seg]
		if o*under > over*u {
			best, over, under = seg, o, u
		}
	}
	return best
}

func step(c *core.Core) api.Errno {
	if e := room(c); e != api.OK {
		return e
	}
	seg := worthiest(c)
	if seg < 0 {
		return api.OK
	}
	pages, _ := standing(c, seg)
	return c.Move(pages[:min(8, len(pages))])
}

// laid is what a device is laid with: of each page the segments of its blocks, the oldest first (none: zeros); pages whose oldest block lies over zeros; of each mapping page the segment of its root (below 0: none); where the journal goes on.
type laid struct {
	geom      api.Geom
	chains    map[int][]int
	overZeros []int
	roots     []int
	seg, off  int
}

// world lays the blocks of each segment, pages first, from its beginning on, and opens the device; the next number is 264 then, and all ages.
func (x laid) world(t *testing.T) world {
	t.Helper()
	g := x.geom
	d, _ := dev.New(total(g))
	used := make([]int, g.Segs)
	put := func(seg int, b api.Block) int {
		at := place(g, seg, used[seg])
		used[seg]++
		s, e := block.Encode(b, 100)
		if e != api.OK || used[seg] > g.SegLen {
			t.Fatalf("%+v in segment %d: %d", b, seg, e)
		}
		d.Write(at, s)
		return at
	}
	heads := make([]int, 8*count(g))
	for id := range g.Pages {
		segs, is := x.chains[id]
		if is {
			heads[id] = api.Zeros
		}
		for k, seg := range segs {
			b := api.Block{Kind: api.Delta, Id: id, Off: k + 1, Bytes: []byte{byte(id + 7)}, Prev: heads[id]}
			if k == 0 && !slices.Contains(x.overZeros, id) {
				b = api.Block{Kind: api.Image, Id: id, Page: api.Page{byte(id), 31: byte(id + 1)}}
			}
			heads[id] = put(seg, b)
		}
	}
	r := api.Region{Gen: 3, Geom: g, Seg: x.seg, Off: x.off, Seq: 200}
	for id, seg := range x.roots {
		if seg >= 0 {
			r.Roots[id] = put(seg, api.Block{Kind: api.Map, Id: id, Heads: [8]int(heads[8*id : 8*id+8])})
		}
	}
	if e := anchor.Write(d, r); e != api.OK {
		t.Fatalf("%+v: %d", r, e)
	}
	w := opened(t, "laid", d, nil)
	if s := w.c.State(); s.At.Seq != 264 || s.Region.Gen != 4 {
		t.Fatalf("laid: %+v", s)
	}
	return w
}

// crowd is a log of many kinds: chains of none to three blocks, in one segment and in several; roots that are none, that are in segments with pages, and without.
func crowd() laid {
	return laid{
		geom: geom(),
		chains: map[int][]int{
			0: {}, 1: {2}, 3: {0, 2, 5}, 7: {5, 5}, 8: {13}, 9: {}, 12: {2}, 15: {4, 13}, 19: {0}, 20: {3, 3, 3},
		},
		overZeros: list(7, 20),
		roots:     list(2, 5, 9, -1),
		seg:       5, off: 7,
	}
}

// P22.1: of no segments, of one, of several, in any order, of one twice, of numbers that no segment has, of all: both lists rise.
func TestOf(t *testing.T) {
	w := crowd().world(t)
	all := list(13, 0, 1, 2, 3, 4, 5, 6, 7, 8, 9, 10, 11, 12)
	for _, x := range []struct{ segs, pages, maps []int }{
		{nil, nil, nil}, {list(), nil, nil}, {list(1), nil, nil}, {list(6, 7, 8, 10, 11, 12), nil, nil},
		{list(0), list(3, 19), nil}, {list(2), list(1, 3, 12), list(0)}, {list(3), list(20), nil}, {list(4), list(15), nil},
		{list(5), list(3, 7), list(1)}, {list(9), nil, list(2)}, {list(13), list(8, 15), nil},
		{list(2, 5), list(1, 3, 7, 12), list(0, 1)}, {list(5, 2), list(1, 3, 7, 12), list(0, 1)}, {list(9, 5, 3, 2), list(1, 3, 7, 12, 20), list(0, 1, 2)},
		{list(2, 2, 2), list(1, 3, 12), list(0)}, {list(13, 9, 13, 9), list(8, 15), list(2)},
		{list(-1, 14, 15, 16, 64, 354, math.MaxInt, math.MinInt, 1<<32+2, 1<<8+2, -2), nil, nil}, {list(-1, 2, 14, 1<<40), list(1, 3, 12), list(0)},
		{all, list(1, 3, 7, 8, 12, 15, 19, 20), list(0, 1, 2)}, {append(all, all...), list(1, 3, 7, 8, 12, 15, 19, 20), list(0, 1, 2)},
	} {
		w.stays(t, "Of", func() {
			if p, m := cleaner.Of(w.c, x.segs); !slices.Equal(p, x.pages) || !slices.Equal(m, x.maps) {
				t.Errorf("of %v: %v, %v, not %v, %v", x.segs, p, m, x.pages, x.maps)
			}
		})
	}
	fresh := formatted(t, geom())
	if p, m := cleaner.Of(fresh.c, all); len(p)+len(m) != 0 {
		t.Errorf("a new core: %v, %v", p, m)
	}
}

// P22.1: each number of pages and mapping pages, in the first and the last sector of each segment.
func TestOfEachSegment(t *testing.T) {
	for _, g := range shapes() {
		for seg := range g.Segs {
			if most(g) == 0 {
				continue
			}
			x := laid{geom: g, chains: map[int][]int{g.Pages - 1: {seg}}, roots: make([]int, count(g)), seg: (seg + 1) % g.Segs, off: g.SegLen}
			for id := range x.roots {
				x.roots[id] = (seg + 2*(id%2)) % g.Segs
			}
			w := x.world(t)
			for other := range g.Segs {
				pages, maps := standing(w.c, other)
				if (len(pages) == 1) != (other == seg) || (len(maps) > 0) != (other == seg || other == (seg+2)%g.Segs && count(g) > 1) {
					t.Errorf("laid: %v, %v", pages, maps)
				}
				if p, m := cleaner.Of(w.c, list(other)); !slices.Equal(p, pages) || !slices.Equal(m, maps) {
					t.Errorf("%+v: of %d: %v, %v, not %v, %v", g, other, p, m, pages, maps)
				}
			}
		}
	}
	for _, last := range [][]int{{}, {3}} { // a block in the last sector of segment 3, or none
		x := laid{geom: geom(), chains: map[int][]int{20: last}, roots: list(9, 9, 9, 9), seg: 12}
		pages := list(0, 1, 2, 3, 4, 5, 6, 7)
		for _, id := range pages {
			x.chains[id] = list(3, 3, 3)
		}
		if len(last) > 0 {
			pages = append(pages, 20)
		}
		w := x.world(t)
		if p, _ := cleaner.Of(w.c, list(3)); !slices.Equal(p, pages) {
			t.Errorf("the last sector: %v, not %v", p, pages)
		}
		if p, m := cleaner.Of(w.c, list(2, 4)); len(p)+len(m) != 0 {
			t.Errorf("beside: %v, %v", p, m)
		}
	}
}

// P22.1 to P22.3: without a core there is nothing, and the calls tell ErrArg.
func TestNoCore(t *testing.T) {
	for _, segs := range [][]int{nil, {}, {0}, {0, 1, 2, 3, 4, 5}, {-1, math.MaxInt}} {
		if p, m := cleaner.Of(nil, segs); len(p)+len(m) != 0 {
			t.Errorf("of %v: %v, %v", segs, p, m)
		}
	}
	if e := cleaner.Round(nil); e != api.ErrArg {
		t.Errorf("Round: %d", e)
	}
	if e := cleaner.Room(nil); e != api.ErrArg {
		t.Errorf("Room: %d", e)
	}
	if e := cleaner.Step(nil); e != api.ErrArg {
		t.Errorf("Step: %d", e)
	}
	for _, call := range []func(*core.Core) api.Errno{cleaner.Round, cleaner.Room, cleaner.Step} { // a core that nobody made: each call ends
		if e := call(new(core.Core)); e == api.OK {
			t.Error("a zero core does it")
		}
		cleaner.Of(new(core.Core), list(0, 1))
	}
}

// Rule 2: the segments that are handed in stay as they are, their spare room, too; the lists that are told are new, and share nothing with them, with each other, or with the core.
func TestNewMemory(t *testing.T) {
	w := crowd().world(t)
	w.stays(t, "memory", func() {
		given := []int{13, 2, 5, 2, 77, 78}
		p, m := cleaner.Of(w.c, given[:4])
		if !slices.Equal(given, []int{13, 2, 5, 2, 77, 78}) {
			t.Errorf("handed in: %v", given)
		}
		wantP, wantM := slices.Clone(p), slices.Clone(m)
		q, n := cleaner.Of(w.c, given[:4])
		for _, l := range [][]int{given, q, n} {
			l = l[:cap(l)]
			for i := range l {
				l[i] = -9
			}
		}
		if !slices.Equal(p, wantP) || !slices.Equal(m, wantM) {
			t.Errorf("told: %v, %v", p, m)
		}
		for i := range p[:cap(p)] {
			p[:cap(p)][i] = -8
		}
		if !slices.Equal(m, wantM) {
			t.Errorf("told: %v", m)
		}
		if q, n := cleaner.Of(w.c, list(13, 2, 5, 2)); !slices.Equal(q, wantP) || !slices.Equal(n, wantM) {
			t.Errorf("told again: %v, %v", q, n)
		}
	})
}

// P22.2: on a new core there is nothing to move: the next region alone is written.
func TestRoundOnNewCore(t *testing.T) {
	for _, g := range shapes() {
		w := formatted(t, g)
		was, done := w.c.State(), w.d.Done()
		for n := range 3 {
			if e := cleaner.Round(w.c); e != api.OK {
				t.Errorf("%+v: %d", g, e)
			}
			was.Region.Gen++
			if s := w.c.State(); !same(s, was) || w.d.Done() != done+3*(n+1) || len(s.At.Free) != g.Segs-1 {
				t.Errorf("%+v: %+v, not %+v; %d done", g, s, was, w.d.Done()-done)
			}
		}
	}
}

// P22.2: the two segments of least live, the least of several, the free ones and the one that is written left out: their pages are written whole where the journal goes on, then their mapping pages and those that were turned, then the region.
func TestRound(t *testing.T) {
	g := geom()
	w := laid{
		geom:   g,
		chains: map[int][]int{0: {0, 0}, 2: {1}, 3: {0, 3}, 9: {2, 3}, 10: {0}, 17: {4}, 18: {}, 21: {0}},
		roots:  list(0, 1, 4, 3),
		seg:    4, off: 9,
	}.world(t)
	// live: 6, 2, 1, 3, and 2 where it is written
	ahead, s := pagesOf(w.c), w.c.State()
	w.stands(t, "laid", 4, 9, 5, 6, 7, 8, 9, 10, 11, 12, 13)
	if e := cleaner.Round(w.c); e != api.OK {
		t.Errorf("Round: %d", e)
	}
	// sectors 9 to 11: pages 2 and 9; 12 to 14: mapping pages 0 and 1, turned, of which 1 was asked
	w.stands(t, "one", 4, 15, 1, 2, 5, 6, 7, 8, 9, 10, 11, 12, 13)
	s.Heads[2], s.Heads[9] = place(g, 4, 10), place(g, 4, 11)
	s.Region.Roots[0], s.Region.Roots[1] = place(g, 4, 13), place(g, 4, 14)
	if x := w.c.State(); !slices.Equal(x.Heads, s.Heads) || !slices.Equal(x.Old, s.Heads) || x.Region.Roots != s.Region.Roots || x.Region.Gen != 5 || x.At.Seq != 266 {
		t.Errorf("one: %+v, not %+v", x, s)
	}
	if x, _ := w.c.Chain(9); len(x.Places) != 1 {
		t.Errorf("page 9: %+v", x)
	}
	if !maps.Equal(ahead, pagesOf(w.c)) {
		t.Errorf("one: %v, not %v", pagesOf(w.c), ahead)
	}
	// live: 5 in segment 0, 2 in segment 3 (page 3, mapping page 3): both are emptied
	if e := cleaner.Round(w.c); e != api.OK {
		t.Errorf("Round: %d", e)
	}
	// sectors 15 to 19: pages 0, 3, 10 and 21; 20 to 24: all mapping pages, of which 3 was asked, and not turned
	w.stands(t, "two", 4, 25, 0, 1, 2, 3, 5, 6, 7, 8, 9, 10, 11, 12, 13)
	s.Heads[0], s.Heads[3], s.Heads[10], s.Heads[21] = place(g, 4, 16), place(g, 4, 17), place(g, 4, 18), place(g, 4, 19)
	s.Region.Roots = [8]int{place(g, 4, 21), place(g, 4, 22), place(g, 4, 23), place(g, 4, 24)}
	if x := w.c.State(); !slices.Equal(x.Heads, s.Heads) || x.Region.Roots != s.Region.Roots {
		t.Errorf("two: %+v, not %+v", x, s)
	}
	if !maps.Equal(ahead, pagesOf(w.c)) {
		t.Errorf("two: %v, not %v", pagesOf(w.c), ahead)
	}
}

// far turns a page so far that it is written whole.
func far(id int, n byte) core.Want {
	return core.Want{Id: id, Kind: api.Image, Now: api.Page{n, 31: n}}
}

// P22.2: segments that nothing is live in, but that are not free yet, are those of least live: nothing is moved, and they are free; with one segment left, that one.
func TestRoundOfEmpty(t *testing.T) {
	g := geom()
	w := formatted(t, g)
	w.commits(t, far(4, 1), far(5, 1))
	w.runsOut(t, 0)
	w.commits(t, far(4, 2), far(5, 2))
	w.runsOut(t, 0)
	w.commits(t, far(4, 3), far(5, 3), far(6, 3))
	w.runsOut(t, 0)
	w.commits(t, far(5, 4))
	w.stands(t, "ahead", 3, 2, 4, 5, 6, 7, 8, 9, 10, 11, 12, 13)
	heads := w.c.State().Heads
	if e := cleaner.Round(w.c); e != api.OK || !slices.Equal(w.c.State().Heads, heads) {
		t.Errorf("empty ones: %d, heads %v, were %v", e, w.c.State().Heads, heads)
	}
	w.stands(t, "empty ones", 3, 4, 0, 1, 4, 5, 6, 7, 8, 9, 10, 11, 12, 13)
	if e := cleaner.Round(w.c); e != api.OK {
		t.Errorf("the last one: %d", e)
	}
	heads[4], heads[6] = place(g, 3, 5), place(g, 3, 6)
	if l := w.c.State().Heads; !slices.Equal(l, heads) {
		t.Errorf("the last one: %v, not %v", l, heads)
	}
	w.stands(t, "the last one", 3, 9, 0, 1, 2, 4, 5, 6, 7, 8, 9, 10, 11, 12, 13)
	if e := cleaner.Round(w.c); e != api.OK || !slices.Equal(w.c.State().Heads, heads) || w.c.State().At.Off != 9 {
		t.Errorf("none: %d, %+v", e, w.c.State())
	}
}

// spread has a block in each segment but the one that is written, and no free one: pages 0 and 1, each in three segments, page 9 in two.
func spread(t *testing.T, room int) world {
	t.Helper()
	w := formatted(t, api.Geom{Pages: 20, Segs: 9, SegLen: 25, Frames: 4})
	for seg := range 8 {
		w.commits(t, whole(list(0, 1, 9)[seg/3], byte(seg+1), byte(seg+1)))
		w.runsOut(t, 0)
	}
	w.commits(t, free(19))
	w.runsOut(t, room)
	if pages, roots := blocks(w.c); w.c.State().At.Off != 25-room || frees(w.c) != 0 || slices.ContainsFunc(pages[:8], func(l []int) bool { return len(l) != 1 }) || len(pages[8])+len(slices.Concat(roots...)) != 0 {
		t.Fatalf("not spread: %+v, %v", w.c.State(), pages)
	}
	return w
}

// P22.2, P22.3: no room for what is to be moved: ErrSpace, and all is as it was; room for that, and none for the mapping pages: ErrSpace, the pages are moved, and the region is as it was; in both it is not dead, and no page is another.
func TestNoSpace(t *testing.T) {
	calls := []func(*core.Core) api.Errno{cleaner.Round, cleaner.Room, cleaner.Step}
	for room := range 8 {
		for i, call := range calls {
			w := spread(t, room)
			was, ahead := w.c.State(), pagesOf(w.c)
			switch {
			case room < 2: // page 0 and a summary
				w.stays(t, "no room", func() {
					if e := call(w.c); e != api.ErrSpace {
						t.Errorf("call %d, room for %d: %d", i, room, e)
					}
				})
			case room < 5: // mapping pages 0 and 1, both turned, and a summary
				if e := call(w.c); e != api.ErrSpace {
					t.Errorf("call %d, room for %d: %d", i, room, e)
				}
				was.Heads[0] = place(was.Region.Geom, 8, 26-room)
				was.At.Off, was.At.Seq = was.At.Off+2, was.At.Seq+1
				if s := w.c.State(); !same(s, was) {
					t.Errorf("call %d, room for %d: %+v, not %+v", i, room, s, was)
				}
				w.stays(t, "no room", func() {
					if e := cleaner.Room(w.c); e != api.ErrSpace {
						t.Errorf("call %d, room for %d, again: %d", i, room, e)
					}
				})
			default:
				if e := call(w.c); e != api.OK || i < 2 && frees(w.c) != 3 { // a step goes on into one of them
					t.Errorf("call %d, room for %d: %d, %v", i, room, e, w.c.State().At)
				}
			}
			if w.c.Dead() || !maps.Equal(pagesOf(w.c), ahead) {
				t.Errorf("call %d, room for %d: dead %v, %v", i, room, w.c.Dead(), pagesOf(w.c))
			}
		}
	}
}

// P22.2: the first round frees two segments, the second one takes one of them, and frees two.
func TestRoomInTwoRounds(t *testing.T) {
	w := formatted(t, geom())
	for id := range 12 {
		w.commits(t, far(id, byte(id)))
		w.runsOut(t, 0)
	}
	w.checkpoints(t)
	w.runsOut(t, 0)
	w.commits(t, free(27))
	w.runsOut(t, 5)
	w.stands(t, "ahead", 13, 20)
	was, ahead := w.c.State(), pagesOf(w.c)
	if e := cleaner.Room(w.c); e != api.OK || w.c.State().Region.Gen != was.Region.Gen+2 {
		t.Errorf("Room: %d, %+v, was %+v", e, w.c.State(), was)
	}
	w.stands(t, "behind", 0, 5, 1, 2, 3)
	if !maps.Equal(ahead, pagesOf(w.c)) {
		t.Errorf("Room: %v, not %v", pagesOf(w.c), ahead)
	}
	w.stays(t, "again", func() {
		if e := cleaner.Room(w.c); e != api.OK {
			t.Errorf("again: %d", e)
		}
	})
}

// P22.2: a round that finds no room for its region ends Room, though the next one, which needs less, would find it.
func TestRoomEndsWithAnError(t *testing.T) {
	g := api.Geom{Pages: 28, Segs: 9, SegLen: 25, Frames: 4}
	w := formatted(t, g)
	w.checkpoints(t, 1, 2)
	for _, seg := range [][]int{nil, {0, 0}, {0}, {1, 1}, {1, 2}, {2, 2}, {3, 3}, {3, 4}} { // of which pages a block is written there
		for _, id := range seg {
			w.commits(t, whole(id, byte(w.c.State().At.Seq)))
		}
		w.runsOut(t, 0)
	}
	w.commits(t, free(27))
	w.runsOut(t, 5)
	// live: 2 (roots), 2, 1, 2, 2, 2, 2, 2
	was, ahead := w.c.State(), pagesOf(w.c)
	w.stands(t, "ahead", 8, 20)
	if e := cleaner.Room(w.c); e != api.ErrSpace {
		t.Errorf("Room: %d", e)
	}
	was.Heads[0], was.At.Off, was.At.Seq = place(g, 8, 21), 22, was.At.Seq+1
	if s := w.c.State(); !same(s, was) {
		t.Errorf("Room: %+v, not %+v", s, was)
	}
	if e := cleaner.Room(w.c); e != api.OK || frees(w.c) != 3 || w.c.State().Region.Gen != was.Region.Gen+2 {
		t.Errorf("again: %d, %+v", e, w.c.State())
	}
	if !maps.Equal(ahead, pagesOf(w.c)) {
		t.Errorf("Room: %v, not %v", pagesOf(w.c), ahead)
	}
}

// P22.2: a core with more pages than may be, so that each round takes as many segments as it frees: 20 pages are moved from one segment to the next, roots 3 and 4 stay behind by turns.
func TestRoomWithoutEnd(t *testing.T) {
	w := formatted(t, api.Geom{Pages: 40, Segs: 6, SegLen: 24, Frames: 4})
	var stay, go20, turned []core.Want
	for id := range 16 {
		stay = append(stay, far(id+24, byte(id)))
	}
	for id := range 6 {
		turned = append(turned, core.Want{Id: id + 24, Kind: api.Image, Now: api.Page{byte(id), 9, 31: byte(id)}})
	}
	for id := range 20 {
		go20 = append(go20, far(id, byte(id)))
	}
	w.commits(t, stay...)
	w.commits(t, turned...)
	w.commits(t, go20...)
	w.checkpoints(t)
	w.runsOut(t, 0)
	w.checkpoints(t, 0, 1, 2, 4)
	w.stands(t, "ahead", 3, 5, 4, 5)
	for range 2 {
		was, ahead := w.c.State(), pagesOf(w.c)
		if e := cleaner.Room(w.c); e != api.ErrSpace || w.c.State().Region.Gen != was.Region.Gen+24 || frees(w.c) != 2 {
			t.Errorf("Room: %d, %+v, was %+v", e, w.c.State(), was)
		}
		if e := cleaner.Step(w.c); e != api.ErrSpace || w.c.State().Region.Gen != was.Region.Gen+48 {
			t.Errorf("Step: %d, %+v, was %+v", e, w.c.State(), was)
		}
		if w.c.Dead() || !maps.Equal(ahead, pagesOf(w.c)) {
			t.Errorf("Room: %v, not %v", pagesOf(w.c), ahead)
		}
	}
	w.commits(t, free(0), free(1), free(2), free(3), free(4), free(5), free(6)) // fewer pages: a round needs less than it frees
	if e := cleaner.Room(w.c); e != api.OK || frees(w.c) < 3 {
		t.Errorf("fewer pages: %d, %+v", e, w.c.State())
	}
}

// P22.2: more pages in two segments than a group in one segment may have: core's ErrArg, and all is as it was.
func TestTooManyPages(t *testing.T) {
	w := formatted(t, api.Geom{Pages: 64, Segs: 6, SegLen: 24, Frames: 4})
	for n := range 4 {
		var l []core.Want
		for id := range 16 {
			l = append(l, far(16*n+id, byte(id)))
		}
		w.commits(t, l...)
	}
	w.stands(t, "ahead", 3, 17, 4, 5)
	for _, call := range []func(*core.Core) api.Errno{cleaner.Round, cleaner.Room, cleaner.Step} {
		w.stays(t, "too many", func() {
			if e := call(w.c); e != api.ErrArg {
				t.Errorf("too many: %d", e)
			}
		})
	}
}

// used is a core with that many free segments, and live ones of many kinds, none of them free again till there is a region.
func used(t *testing.T, g api.Geom, free int) world {
	t.Helper()
	w := formatted(t, g)
	for n := 0; frees(w.c) > free; n++ {
		id := n % (most(g) - 2)
		w.commits(t, whole(id, byte(n), byte(id), byte(n)), core.Want{Id: id + 1, Kind: api.Image, Now: api.Page{byte(n / 3), 31: byte(n / 5)}}, alloc(most(g)-1))
		if n < 30 && n%7 == 3 { // later on no segment is freed
			w.checkpoints(t, n%count(g))
		}
	}
	return w
}

// P22.2: three segments free or more: nothing is done, nothing is written; fewer: rounds till there are three, and no more.
func TestRoom(t *testing.T) {
	g := geom()
	w := formatted(t, g)
	w.d.Fail(0)
	w.stays(t, "a new core", func() {
		if e := cleaner.Room(w.c); e != api.OK {
			t.Errorf("a new core: %d", e)
		}
	})
	for n := range 13 {
		w := used(t, g, n)
		if n >= 3 {
			w.d.Fail(0)
			w.stays(t, "enough", func() {
				if e := cleaner.Room(w.c); e != api.OK {
					t.Errorf("%d free: %d", n, e)
				}
			})
			continue
		}
		v, was := used(t, g, n), pagesOf(w.c)
		gen := w.c.State().Region.Gen
		e, f := cleaner.Room(w.c), room(v.c)
		if e != f || e == api.OK && (frees(w.c) < 3 || w.c.State().Region.Gen == gen) || n > 0 && e != api.OK {
			t.Errorf("%d free: %d, not %d; %+v", n, e, f, w.c.State())
		}
		alike(t, "Room", w, v)
		if !maps.Equal(was, pagesOf(w.c)) {
			t.Errorf("%d free: %v, not %v", n, pagesOf(w.c), was)
		}
	}
}

// turns writes pages over, and keeps what they ought to be.
type turns struct {
	world
	now map[int]api.Page
	n   byte
}

// turning is a core with as many pages as may be.
func turning(t *testing.T, g api.Geom) *turns {
	t.Helper()
	x := &turns{world: formatted(t, g), now: map[int]api.Page{}}
	for id := range most(g) {
		x.now[id] = api.Page{}
		x.commits(t, alloc(id))
	}
	return x
}

// wants turns as many pages, from one on, by a byte, so that a chain grows till it is as long as may be, or by both ends.
func (x *turns) wants(from, many int, ends bool) []core.Want {
	var l []core.Want
	x.n++
	for id := range len(x.now) {
		if (id+from)%len(x.now) >= many {
			continue
		}
		p := x.now[id]
		p[x.n%32]++
		if ends {
			p[0], p[31] = p[0]+1, p[31]+1
		}
		x.now[id] = p
		l = append(l, core.Want{Id: id, Kind: api.Image, Now: p})
	}
	return l
}

// makesRoom tells how many rounds were gone.
func (x *turns) makesRoom(t *testing.T, name string) int {
	t.Helper()
	gen := x.c.State().Region.Gen
	if e := cleaner.Room(x.c); e != api.OK || frees(x.c) < 3 {
		t.Fatalf("%s: %d, %+v", name, e, x.c.State())
	}
	return int(x.c.State().Region.Gen - gen)
}

func (x *turns) holds(t *testing.T, name string) {
	t.Helper()
	if !maps.Equal(x.now, pagesOf(x.c)) {
		t.Fatalf("%s: %v, not %v", name, pagesOf(x.c), x.now)
	}
}

// P22.2, P22.4: as many pages as may be, written over and over, all together or one by one: behind each Room three segments are free, all that is written has room, and no page is another.
func TestWrittenOver(t *testing.T) {
	for i, g := range shapes() {
		rounds := 0
		for _, many := range list(1, 2, 5, 15) {
			if most(g) == 0 {
				continue
			}
			x := turning(t, g)
			for n := range 600 {
				rounds += x.makesRoom(t, "ahead of a commit")
				x.commits(t, x.wants(n*many, many, n%5 == 0)...)
				switch n % 200 {
				case 51, 52, 53:
					if e := cleaner.Step(x.c); e != api.OK {
						t.Fatalf("%+v: Step: %d, %+v", g, e, x.c.State())
					}
				case 110:
					if e := cleaner.Round(x.c); e != api.OK {
						t.Fatalf("%+v: Round: %d, %+v", g, e, x.c.State())
					}
				case 199:
					x.world = opened(t, "opened", x.d, nil)
				}
				x.holds(t, "written over")
			}
		}
		if most(g) > 0 && rounds < 20 {
			t.Errorf("shape %d: %d rounds", i, rounds)
		}
	}
}

// P22.2, P22.4: as many pages as may be, each chain as long as may be, laid close or far apart, and nothing else that is live: behind Room three segments are free, again and again, and no page is another.
func TestFullest(t *testing.T) {
	for i, g := range shapes() {
		if most(g) == 0 || most(g) == g.Pages { // the last page is to be none, so that its mark changes nothing
			continue
		}
		full, rounds := 0, 0
		for apart := range 9 { // so many blocks in each segment; of 0 as many as there is room for
			x := turning(t, g)
			for range 12 {
				for n := 0; n < 60 && x.grows(t, apart); n++ {
				}
				x.checkpoints(t)
				for frees(x.c) >= 3 {
					x.runsOut(t, 0)
					x.commits(t, free(g.Pages-1))
				}
				if len(x.c.Places()) == 3*most(g)+(most(g)+7)/8 {
					full++
				}
				rounds += x.makesRoom(t, "fullest")
				x.holds(t, "fullest")
			}
		}
		if full < 40 || rounds < 108 {
			t.Errorf("shape %d: %d times full, %d rounds", i, full, rounds)
		}
	}
}

// grows writes one more block of a page whose chain has room for it; false, if there is none.
func (x *turns) grows(t *testing.T, apart int) bool {
	t.Helper()
	for id := range len(x.now) {
		if c, _ := x.c.Chain(id); len(c.Places) == 3 {
			continue
		}
		x.makesRoom(t, "growing")
		x.commits(t, x.wants(len(x.now)-id, 1, false)...)
		pages, roots := blocks(x.c)
		if seg := x.c.State().At.Seg; apart > 0 && len(pages[seg])+len(roots[seg]) >= apart {
			x.runsOut(t, 0)
		}
		return true
	}
	return false
}

// P22.3: nothing but free segments, nothing but a full one, a segment that is the best and has no page: nothing is done.
func TestStepOfNothing(t *testing.T) {
	nothing := func(name string, w world) {
		t.Helper()
		w.d.Fail(0)
		w.stays(t, name, func() {
			if e := cleaner.Step(w.c); e != api.OK {
				t.Errorf("%s: %d", name, e)
			}
		})
		w.d.Fail(-1)
	}
	for _, g := range shapes() {
		nothing("a new core", formatted(t, g))
	}
	x := laid{geom: geom(), chains: map[int][]int{}, roots: list(3, -1, -1, -1), seg: 5}
	for id := range 8 {
		x.chains[id] = list(3, 3, 3)
	}
	w := x.world(t)
	nothing("a full segment", w)
	x.chains[4] = list(3, 3)
	w = x.world(t)
	if e := cleaner.Step(w.c); e != api.OK {
		t.Errorf("a segment that is nearly full: %d", e)
	}
	w.stands(t, "nearly full", 5, 9, 0, 1, 2, 4, 6, 7, 8, 9, 10, 11, 12, 13)
	nothing("a mapping page alone", w)

	w = formatted(t, geom())
	for n := range byte(2) {
		w.commits(t, far(4, n), far(5, n))
		w.runsOut(t, 0)
	}
	w.commits(t, far(4, 9))
	nothing("one without a live block", w)
	w.checkpoints(t)
	if e := cleaner.Step(w.c); e != api.OK {
		t.Errorf("behind a region: %d", e)
	}
	if p, _ := cleaner.Of(w.c, list(2)); !slices.Equal(p, list(4, 5)) || frees(w.c) != 12 {
		t.Errorf("behind a region: %v, %+v", p, w.c.State())
	}
}

// P22.3: no more than eight pages, the first ones, however many blocks they have; then the others, and then none.
func TestStepMovesEight(t *testing.T) {
	g := geom()
	for longest := range list(1, 2) {
		x := laid{geom: g, chains: map[int][]int{}, roots: list(3, 3, -1, -1), seg: 5, off: 1}
		for id := 2; id < 14; id++ {
			x.chains[id] = slices.Repeat(list(3), 1+longest*(id%2))
		}
		w := x.world(t)
		was := w.c.State()
		if e := cleaner.Step(w.c); e != api.OK {
			t.Errorf("eight: %d", e)
		}
		for i := range 8 {
			was.Heads[2+i] = place(g, 5, 2+i)
		}
		was.At.Off, was.At.Seq = 10, 265
		if s := w.c.State(); !same(s, was) {
			t.Errorf("eight: %+v, not %+v", s, was)
		}
		if e := cleaner.Step(w.c); e != api.OK {
			t.Errorf("four: %d", e)
		}
		for i := range 4 {
			was.Heads[10+i] = place(g, 5, 11+i)
		}
		was.At.Off, was.At.Seq = 15, 266
		if s := w.c.State(); !same(s, was) {
			t.Errorf("four: %+v, not %+v", s, was)
		}
		w.stays(t, "none", func() {
			if e := cleaner.Step(w.c); e != api.OK {
				t.Errorf("none: %d", e)
			}
		})
	}
}

// aged has 8 pages in segment 0, 2 in segment 1, 2 in segment 2, whose last numbers are 81, 104 and 127, and is in segment 3.
func aged(t *testing.T, seq uint32) world {
	t.Helper()
	w := formatted(t, geom())
	w.commits(t, far(0, 1), far(1, 1), far(2, 1), far(3, 1), far(4, 1), far(5, 1), far(6, 1), far(7, 1))
	w.runsOut(t, 0)
	w.commits(t, far(8, 1), far(9, 1))
	w.runsOut(t, 0)
	w.commits(t, far(10, 1), far(11, 1))
	w.runsOut(t, 0)
	for w.c.State().At.Seq < seq {
		w.commits(t, free(27))
	}
	if l := w.c.Ages(); !slices.Equal(l[:4], []uint32{81, 104, 127, seq - 1}) || w.c.State().At.Seg != 3 {
		t.Fatalf("ages %v", l)
	}
	return w
}

// takes holds that a step moves these pages, and no others.
func (w world) takes(t *testing.T, name string, pages ...int) {
	t.Helper()
	was := w.c.State().Heads
	if e := cleaner.Step(w.c); e != api.OK {
		t.Errorf("%s: %d", name, e)
	}
	for id, head := range w.c.State().Heads {
		if (head != was[id]) != slices.Contains(pages, id) {
			t.Errorf("%s: heads %v, were %v", name, w.c.State().Heads, was)
		}
	}
}

// P22.3: an old segment goes ahead of one of less live, as long as the next number lets it; of the same age the one of less live goes ahead, and of several the least.
func TestStepTakesTheBest(t *testing.T) {
	w := aged(t, 129)
	w.takes(t, "the oldest", 0, 1, 2, 3, 4, 5, 6, 7)
	w.checkpoints(t) // segment 0 is free
	w.takes(t, "the next one", 8, 9)
	w.checkpoints(t)
	w.takes(t, "the last one", 10, 11)
	// at 138 the worths are 17 * 58 / 33 and 23 * 35 / 27, at 139 17 * 59 / 33 and 23 * 36 / 27
	aged(t, 138).takes(t, "still the oldest", 0, 1, 2, 3, 4, 5, 6, 7)
	aged(t, 139).takes(t, "no longer", 8, 9)
	for _, x := range []struct {
		chains map[int][]int
		seg    int
	}{
		{map[int][]int{0: {1}, 1: {1}, 2: {1}, 3: {1}, 4: {6}, 5: {6}, 6: {6}}, 6},
		{map[int][]int{0: {6}, 1: {6}, 2: {6}, 3: {6}, 4: {1}, 5: {1}, 6: {1}}, 1},
		{map[int][]int{0: {6}, 1: {1}, 2: {13}, 3: {0, 0}, 4: {5}}, 1},
		{map[int][]int{0: {6}, 1: {13}, 2: {12}, 3: {0, 0}, 4: {5}, 5: {5, 5}}, 6},
		{map[int][]int{0: {13}, 1: {0, 0}, 2: {12, 12}, 4: {5}}, 13},
	} {
		w := laid{geom: geom(), chains: x.chains, roots: list(5, -1, -1, -1), seg: 5, off: 9}.world(t)
		pages, _ := standing(w.c, x.seg)
		w.takes(t, "of one age", pages...)
	}
}

// P22.3: fewer than three segments are free: there is room first, and only then a segment is taken.
func TestStepMakesRoomFirst(t *testing.T) {
	for free := range 5 {
		for _, g := range []api.Geom{geom(), shapes()[2], shapes()[9], shapes()[6]} {
			w, v := used(t, g, free), used(t, g, free)
			was, gen := pagesOf(w.c), w.c.State().Region.Gen
			e, f := cleaner.Step(w.c), room(v.c)
			if f == api.OK {
				rooms := v.c.State().Region.Gen - gen
				f = step(v.c)
				if (rooms == 0) != (free >= 3) || v.c.State().Region.Gen != gen+rooms {
					t.Errorf("%d free: %d rounds", free, rooms)
				}
			}
			if e != f || e != api.OK && free > 0 {
				t.Errorf("%d free: %d, not %d", free, e, f)
			}
			alike(t, "a step", w, v)
			if !maps.Equal(was, pagesOf(w.c)) {
				t.Errorf("%d free: %v, not %v", free, pagesOf(w.c), was)
			}
		}
	}
}

// build is a core that can be built again.
type build struct {
	name string
	made func(t *testing.T) world
}

// builds are cores of many kinds, some of them with less room than there is to be.
func builds() []build {
	small := api.Geom{Pages: 20, Segs: 8, SegLen: 24, Frames: 4}
	return []build{
		{"new", func(t *testing.T) world { return formatted(t, geom()) }},
		{"a crowd", func(t *testing.T) world { return crowd().world(t) }},
		{"aged", func(t *testing.T) world { return aged(t, 132) }},
		{"spread, room for a round", func(t *testing.T) world { return spread(t, 6) }},
		{"spread, room for pages", func(t *testing.T) world { return spread(t, 3) }},
		{"two free", func(t *testing.T) world { return used(t, geom(), 2) }},
		{"one free", func(t *testing.T) world { return used(t, geom(), 1) }},
		{"none free", func(t *testing.T) world { return used(t, geom(), 0) }},
		{"three free", func(t *testing.T) world { return used(t, geom(), 3) }},
		{"eight free", func(t *testing.T) world { return used(t, geom(), 8) }},
		{"a small one, two free", func(t *testing.T) world { return used(t, small, 2) }},
		{"full chains, two free", func(t *testing.T) world { return fullest(t, small) }},
		{"full chains, two free, many pages", func(t *testing.T) world { return fullest(t, shapes()[9]) }},
	}
}

// fullest has as many pages as may be, each chain as long as may be, four blocks in a segment, and two free segments.
func fullest(t *testing.T, g api.Geom) world {
	t.Helper()
	x := turning(t, g)
	for n := 0; n < 200 && x.grows(t, 4); n++ {
	}
	x.checkpoints(t)
	for frees(x.c) >= 3 {
		x.runsOut(t, 0)
		x.commits(t, free(g.Pages-1))
	}
	if frees(x.c) != 2 || len(x.c.Places()) != 3*most(g)+(most(g)+7)/8 {
		t.Fatalf("%+v: %d blocks, %+v", g, len(x.c.Places()), x.c.State())
	}
	return x.world
}

// calls are those that write, each with the one that it is held against.
func calls() []struct {
	name      string
	ask, twin func(*core.Core) api.Errno
} {
	return []struct {
		name      string
		ask, twin func(*core.Core) api.Errno
	}{{"Round", cleaner.Round, round}, {"Room", cleaner.Room, room}, {"Step", cleaner.Step, step}}
}

// P22.2, P22.3: a failure at each write and flush: ErrDevice, and it is done as far as that; from then on ErrDead, but where nothing is to be written; what stands where is told all the same.
func TestFails(t *testing.T) {
	told := map[api.Errno]int{}
	for _, b := range builds() {
		for _, x := range calls() {
			for k := 0; ; k++ {
				name := b.name + ": " + x.name
				w, v := b.made(t), b.made(t)
				w.d.Fail(k)
				v.d.Fail(k)
				was := pagesOf(w.c)
				e, f := x.ask(w.c), x.twin(v.c)
				if e != f || w.c.Dead() != (e == api.ErrDevice) {
					t.Errorf("%s, %d go through: %d, not %d", name, k, e, f)
				}
				alike(t, name, w, v)
				if !maps.Equal(was, pagesOf(w.c)) {
					t.Errorf("%s, %d go through: %v, not %v", name, k, pagesOf(w.c), was)
				}
				told[e]++
				if e != api.ErrDevice {
					break
				}
				w.stays(t, name, func() {
					for _, y := range calls() {
						e, f := y.ask(w.c), y.twin(v.c)
						if e != f || e != api.ErrDead && (y.name == "Round" || e != api.OK || frees(w.c) < 3) {
							t.Errorf("%s, dead: %s: %d, not %d", name, y.name, e, f)
						}
						told[e]++
					}
					for seg := range w.c.State().Region.Segs {
						p, m := cleaner.Of(w.c, list(seg, seg+3))
						if q, n := standing(w.c, seg, seg+3); !slices.Equal(p, q) || !slices.Equal(m, n) {
							t.Errorf("%s, dead: of %d: %v, %v, not %v, %v", name, seg, p, m, q, n)
						}
					}
				})
			}
		}
	}
	if told[api.ErrDevice] < 200 || told[api.ErrDead] < 200 || told[api.OK] < 40 || told[api.ErrSpace] < 2 {
		t.Errorf("told: %v", told)
	}
}

// anyWants are wants that may be: at most as many pages as that at a time, some near what they were.
func anyWants(c *core.Core, pages int, next func(n int) int) []core.Want {
	g := c.State().Region.Geom
	now := pagesOf(c)
	there := len(now)
	var l []core.Want
	for id := next(4); id < g.Pages && len(l) < 22; id += 1 + next(1+g.Pages/max(1, pages)) {
		p, is := now[id]
		switch n := next(12); {
		case n == 0:
			l = append(l, free(id))
			if is {
				there--
			}
			continue
		case !is && there >= pages:
			continue
		case n == 1:
			l = append(l, alloc(id))
		case n < 8:
			p[next(32)]++
			l = append(l, core.Want{Id: id, Kind: api.Image, Now: p})
		default:
			l = append(l, far(id, byte(next(256))))
		}
		if !is {
			there++
		}
	}
	return l
}

// P22.1 to P22.4: long plays of all calls, some with more pages than may be, some that go on till there is no room, some whose device fails: call by call a core is as the one that the calls are held against.
func TestPlays(t *testing.T) {
	told, moved, rounds := map[api.Errno]int{}, 0, map[int]int{}
plays:
	for start := range 160 {
		g := shapes()[list(0, 1, 2, 3, 4, 5, 6, 7, 8, 9, 3, 4, 3)[start%13]]
		next := pick(uint32(start))
		w, v := formatted(t, g), formatted(t, g)
		pages := most(g)
		if start%3 == 0 {
			pages = min(g.Pages, pages+next(g.Pages))
		}
		careful := start%2 == 0
		for range 200 {
			var e, f api.Errno
			was, gen, at := pagesOf(w.c), w.c.State().Region.Gen, w.c.State().At
			turned := false
			switch n := next(24); {
			case w.c.Dead() && n < 4:
				keep := make([]byte, w.d.Loose())
				for i := range keep {
					keep[i] = byte(next(2))
				}
				w.d.Crash(keep)
				v.d.Crash(keep)
				c, e := core.Open(w.d)
				o, f := core.Open(v.d)
				if e != api.OK || f != api.OK {
					continue plays // with no room, or more pages than may be
				}
				w.c, v.c = c, o
				turned = true
			case n < 14 && (frees(w.c) > 2 || careful || n < 4):
				l := anyWants(w.c, pages, next)
				if careful {
					e, f = cleaner.Room(w.c), room(v.c)
					rounds[int(w.c.State().Region.Gen-gen)]++
				}
				if e == api.OK && f == api.OK {
					e, f, turned = w.c.Commit(l), v.c.Commit(l), true
				}
			case n < 16:
				e, f = cleaner.Round(w.c), round(v.c)
			case n < 18:
				e, f = cleaner.Room(w.c), room(v.c)
				rounds[int(w.c.State().Region.Gen-gen)]++
			case n < 22:
				e, f = cleaner.Step(w.c), step(v.c)
				if s := w.c.State(); s.Region.Gen == gen && s.At.Seq != at.Seq {
					moved++
				}
			case n < 23:
				segs := []int{next(g.Segs+2) - 1, next(g.Segs), next(g.Segs)}
				w.stays(t, "of", func() {
					p, m := cleaner.Of(w.c, segs)
					if q, n := standing(v.c, segs...); !slices.Equal(p, q) || !slices.Equal(m, n) {
						t.Errorf("of %v: %v, %v, not %v, %v", segs, p, m, q, n)
					}
				})
			case start%5 < 2:
				k := next(30)
				w.d.Fail(k)
				v.d.Fail(k)
			}
			told[e]++
			if e != f {
				t.Errorf("told %d, not %d", e, f)
			}
			alike(t, "play", w, v)
			if !turned && !maps.Equal(was, pagesOf(w.c)) {
				t.Errorf("pages %v, were %v", pagesOf(w.c), was)
			}
			if t.Failed() {
				t.Fatalf("play %d", start)
			}
		}
	}
	if told[api.OK] < 2000 || told[api.ErrSpace] < 20 || told[api.ErrDevice] < 10 || told[api.ErrDead] < 20 || told[api.ErrArg] < 2 || moved < 100 || rounds[0] < 100 || rounds[1] < 20 || rounds[2] < 2 {
		t.Errorf("told %v, %d moved, rounds %v", told, moved, rounds)
	}
}

// keeps are ways in which n loose writes may be kept: none, all, each alone, each lost alone, the first ones, and some at random.
func keeps(n int, next func(n int) int) [][]byte {
	l := [][]byte{nil, slices.Repeat([]byte{1}, n)}
	for i := range n {
		alone, lost := make([]byte, n), slices.Repeat([]byte{1}, n)
		alone[i], lost[i] = 1, 0
		l = append(l, alone, lost, lost[:i])
	}
	for range min(n, 6) {
		keep := make([]byte, n)
		for i := range keep {
			keep[i] = byte(next(256))
		}
		l = append(l, keep)
	}
	return l
}

// change is a loose write that is not what stood there.
type change struct {
	at    int
	bytes api.Sector
}

// loose loses all loose writes, and tells them; they are in sectors that rise, each another.
func (w world) loose() []change {
	all := sectors(w.d)
	w.d.Crash(nil)
	var l []change
	for at, s := range sectors(w.d) {
		if s != all[at] {
			l = append(l, change{at, all[at]})
		}
	}
	return l
}

// deviceOf is a device as it stands there, with those of the changes that are kept.
func (w world) deviceOf(l []change, keep []byte) *dev.Dev {
	d, _ := dev.New(w.d.Len())
	for at, s := range sectors(w.d) {
		d.Write(at, s)
	}
	for i, x := range l {
		if i < len(keep) && keep[i]%2 == 1 {
			d.Write(x.at, x.bytes)
		}
	}
	d.Flush()
	return d
}

// P22.4: each call cut at each write and flush, any of the loose writes kept, then opened: no page is another; there is room behind it, and it goes on.
func TestCut(t *testing.T) {
	next, cuts := pick(5), 0
	for _, b := range builds() {
		if frees(b.made(t).c) < 2 {
			continue // as no core is that makes room ahead of what it writes: an Open may find none
		}
		for _, x := range calls() {
			for k, more := 0, true; more; k++ {
				w := b.made(t)
				was := pagesOf(w.c)
				w.d.Fail(k)
				more = x.ask(w.c) == api.ErrDevice
				loose := w.loose()
				for _, keep := range keeps(len(loose), next) {
					name := b.name + ": " + x.name + ", opened"
					o := opened(t, name, w.deviceOf(loose, keep), nil)
					cuts++
					if !maps.Equal(was, pagesOf(o.c)) {
						t.Fatalf("%s, %d go through, kept %v: %v, not %v", name, k, keep, pagesOf(o.c), was)
					}
					if e := cleaner.Room(o.c); e != api.OK || frees(o.c) < 3 {
						t.Fatalf("%s, %d go through, kept %v: Room: %d, %+v", name, k, keep, e, o.c.State())
					}
					if e := cleaner.Step(o.c); e != api.OK {
						t.Fatalf("%s, %d go through, kept %v: Step: %d, %+v", name, k, keep, e, o.c.State())
					}
					if o = opened(t, name, o.d, nil); !maps.Equal(was, pagesOf(o.c)) {
						t.Fatalf("%s, %d go through, kept %v, again: %v, not %v", name, k, keep, pagesOf(o.c), was)
					}
				}
			}
		}
	}
	if cuts < 1000 {
		t.Errorf("%d cuts", cuts)
	}
}

// reopened is what stands behind a crash that keeps some of the loose writes, opened; the Open is cut, too, now and then.
func reopened(t *testing.T, name string, d *dev.Dev, next func(n int) int) world {
	t.Helper()
	for range 20 {
		keep := make([]byte, d.Loose())
		for i := range keep {
			keep[i] = byte(max(next(3), next(2)))
		}
		d.Crash(keep)
		d.Fail(next(12))
		c, e := core.Open(d)
		d.Fail(-1)
		if e == api.OK {
			return world{d, c}
		}
		if e != api.ErrDevice {
			t.Fatalf("%s: Open: %d", name, e)
		}
	}
	return opened(t, name, d, nil)
}

// wrote is the pages behind a Commit of these.
func wrote(ahead map[int]api.Page, l []core.Want) map[int]api.Page {
	behind := maps.Clone(ahead)
	for _, x := range l {
		behind[x.Id] = x.Now
		switch x.Kind {
		case api.Alloc:
			behind[x.Id] = api.Page{}
		case api.Free:
			delete(behind, x.Id)
		}
	}
	return behind
}

// P22.2, P22.3, P22.4: long plays with room made ahead of all that is written, cut anywhere, in opening, too: there is always room, no page is another but by a Commit, and that one is done or not.
func TestCutPlays(t *testing.T) {
	met := map[string]int{}
	for start := range 180 {
		g := shapes()[list(4, 5, 7, 8, 4, 0, 7, 2, 9, 6, 1, 3)[start%12]]
		next := pick(uint32(500 + start))
		w := formatted(t, g)
		for range 300 {
			ahead := pagesOf(w.c)
			behind := ahead
			short := frees(w.c) < 3
			cut := next(80) == 0 || short && next(3) > 0
			if cut {
				w.d.Fail(next(40))
			}
			var e api.Errno
			kind := []string{"commit", "commit", "commit", "commit", "commit", "room", "step", "step"}[next(8)]
			if start%2 == 0 && next(12) == 0 { // in the others all that is freed is freed by the cleaner, or by an Open
				kind = "checkpoint"
			}
			if short && next(3) == 0 {
				kind = "room"
			}
			switch kind {
			case "commit":
				l := anyWants(w.c, most(g), next)
				if e = cleaner.Room(w.c); e == api.OK {
					e, behind = w.c.Commit(l), wrote(ahead, l)
				}
			case "checkpoint":
				if e = cleaner.Room(w.c); e == api.OK {
					e = w.c.Checkpoint(nil)
				}
			case "room":
				if e = cleaner.Room(w.c); e == api.OK && frees(w.c) < 3 {
					t.Fatalf("Room: %+v", w.c.State())
				}
			default:
				e = cleaner.Step(w.c)
			}
			if e != api.OK && (e != api.ErrDevice || !cut) {
				t.Fatalf("%+v: %s: %d, %+v", g, kind, e, w.c.State())
			}
			w.d.Fail(-1)
			if e == api.OK && next(150) > 0 {
				ahead = behind
			} else {
				w = reopened(t, kind, w.d, next)
				if short {
					kind += ", short"
				}
				met[kind]++
			}
			if now := pagesOf(w.c); !maps.Equal(now, behind) && (e == api.OK || !maps.Equal(now, ahead)) {
				t.Fatalf("%+v: %s: %v, not %v", g, kind, now, behind)
			}
		}
	}
	for _, kind := range []string{"commit", "checkpoint", "room", "step", "commit, short", "room, short", "step, short"} {
		if met[kind] < 3 {
			t.Errorf("met %v", met)
		}
	}
}

// Rules 1 and 6: a device that is turned under a core, as none ought to be: each call ends, and Of tells what can be read.
func TestTurnedUnderneath(t *testing.T) {
	next := pick(3)
	for range 300 {
		w := crowd().world(t)
		for range 1 + next(6) {
			at := 4 + next(w.d.Len()-4)
			if l := w.c.Places(); len(l) > 0 && next(2) == 0 {
				at = l[next(len(l))]
			}
			s, _ := w.d.Read(at)
			s[next(64)] = byte(next(256))
			w.d.Write(at, s)
		}
		w.d.Flush()
		for _, x := range calls() {
			segs := list(next(14), next(14))
			p, m := cleaner.Of(w.c, segs)
			if q, n := standing(w.c, segs...); !slices.Equal(p, q) || !slices.Equal(m, n) {
				t.Errorf("of %v: %v, %v, not %v, %v", segs, p, m, q, n)
			}
			x.ask(w.c)
		}
	}
}
