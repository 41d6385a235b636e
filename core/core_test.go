package core_test

import (
	"maps"
	"math"
	"slices"
	"testing"

	"silt/anchor"
	"silt/api"
	"silt/block"
	"silt/core"
	"silt/dev"
	"silt/group"
	"silt/journal"
	"silt/recover"
	"silt/region"
	"silt/summary"
)

func list(l ...int) []int { return l }

// geom is the geometry of most tests: 12 pages, of which 6 may be allocated, in two mapping pages.
func geom() api.Geom { return api.Geom{Pages: 12, Segs: 9, SegLen: 25, Frames: 4} }

// shapes are geometries that may be, at the edges and between; in one of them no page may be allocated.
func shapes() []api.Geom {
	return []api.Geom{
		geom(), {Pages: 1, Segs: 6, SegLen: 24, Frames: 2}, {Pages: 64, Segs: 16, SegLen: 32, Frames: 16}, {Pages: 64, Segs: 6, SegLen: 24, Frames: 3},
		{Pages: 16, Segs: 8, SegLen: 24, Frames: 4}, {Pages: 40, Segs: 7, SegLen: 31, Frames: 3}, {Pages: 9, Segs: 16, SegLen: 25, Frames: 5},
	}
}

// total, place, count and most are counted here, apart from plan: all sectors, sector off of segment seg, how many mapping pages, how many pages may be allocated.
func total(g api.Geom) int { return 4 + g.Segs*g.SegLen }

func place(g api.Geom, seg, off int) int { return 4 + seg*g.SegLen + off }

func count(g api.Geom) int { return (g.Pages + 7) / 8 }

func most(g api.Geom) int { return min(g.Pages, (4*(g.Segs-4)-count(g))/3) }

func image(id int, n byte) api.Block {
	return api.Block{Kind: api.Image, Id: id, Page: api.Page{n, n, 31: n}}
}

func delta(id int, n byte, prev int) api.Block {
	return api.Block{Kind: api.Delta, Id: id, Off: 1, Bytes: []byte{n}, Prev: prev}
}

func mapping(id int, heads ...int) api.Block {
	b := api.Block{Kind: api.Map, Id: id}
	copy(b.Heads[:], heads)
	return b
}

func item(b api.Block) api.Item {
	return api.Item{Mark: api.Mark{Kind: b.Kind, Id: b.Id}, Block: b}
}

func mark(kind, id int) api.Item { return api.Item{Mark: api.Mark{Kind: kind, Id: id}} }

func whole(id int, bytes ...byte) core.Want {
	w := core.Want{Id: id, Kind: api.Image}
	copy(w.Now[:], bytes)
	return w
}

func alloc(id int) core.Want { return core.Want{Id: id, Kind: api.Alloc} }

func free(id int) core.Want { return core.Want{Id: id, Kind: api.Free} }

func wants(l ...core.Want) []core.Want { return l }

// pick tells numbers by turns from a seed on.
func pick(seed uint32) func(n int) int {
	return func(n int) int {
		seed = seed*1664525 + 1013904223
		return int(seed>>8) % n
	}
}

func seldom(next func(n int) int, n int) bool { return next(n) == 0 }

// sample is a sector that is none's.
func sample(i int) (s api.Sector) {
	for k := range s {
		s[k] = byte(200 + i + 3*k)
	}
	s[0] = 0
	return s
}

// device has n sectors that are none's, none of them loose.
func device(t *testing.T, n int) *dev.Dev {
	t.Helper()
	d, e := dev.New(n)
	if e != api.OK {
		t.Fatalf("device of %d sectors: %d", n, e)
	}
	for i := range n {
		d.Write(i, sample(i))
	}
	d.Flush()
	return d
}

// sectors are all of a device, as they are read.
func sectors(d *dev.Dev) []api.Sector {
	l := make([]api.Sector, d.Len())
	for i := range l {
		l[i], _ = d.Read(i)
	}
	return l
}

// deviceOf has these sectors, none of them loose.
func deviceOf(l []api.Sector) *dev.Dev {
	d, _ := dev.New(len(l))
	for i, s := range l {
		d.Write(i, s)
	}
	d.Flush()
	return d
}

// lay sets the sector of a block, with a number.
func lay(t *testing.T, d *dev.Dev, at int, b api.Block, seq uint32) {
	t.Helper()
	s, e := block.Encode(b, seq)
	if e != api.OK || d.Write(at, s) != api.OK {
		t.Fatalf("%+v in sector %d: %d", b, at, e)
	}
}

// stays holds that a device is as it was, whatever is asked.
func stays(t *testing.T, name string, d *dev.Dev, ask func()) {
	t.Helper()
	was, loose, done := sectors(d), d.Loose(), d.Done()
	ask()
	if !slices.Equal(sectors(d), was) || d.Loose() != loose || d.Done() != done {
		t.Errorf("%s: the device is changed", name)
	}
}

// page is one that is there: what it is, and the places of its blocks, from the head on.
type page struct {
	now    api.Page
	places []int
}

// twin is what a core is to be, and what its device is to have, counted another way.
type twin struct {
	region api.Region // the one that was written last, but for its roots
	pages  map[int]page
	old    []int
	at     journal.At
	ages   []uint32
	disk   []api.Sector
	done   int
}

// twinOf is what a device says, and is to be opened.
func twinOf(d *dev.Dev) (*twin, api.Errno) {
	s, e := recover.Load(d)
	w := &twin{region: s.Region, pages: map[int]page{}, old: s.Old, at: s.At, disk: sectors(d), done: d.Done()}
	for id, head := range s.Heads {
		if c, e := recover.Chain(d, s.Region.Geom, id, head); e == api.OK {
			w.pages[id] = page{c.Page, c.Places}
		}
	}
	return w, e
}

func (w *twin) heads() []int {
	l := make([]int, w.region.Pages)
	for id, p := range w.pages {
		l[id] = 1
		if len(p.places) > 0 {
			l[id] = p.places[0]
		}
	}
	return l
}

func (w *twin) places() []int {
	var l []int
	for id := range w.region.Pages {
		l = append(l, w.pages[id].places...)
	}
	for _, root := range w.region.Roots {
		if root != 0 {
			l = append(l, root)
		}
	}
	return l
}

func (w *twin) state() recover.State {
	return recover.State{Region: w.region, Heads: w.heads(), Old: w.old, At: w.at}
}

// frees are the segments without a live place, but the one that is written.
func (w *twin) frees() []int {
	live := make([]bool, w.region.Segs)
	live[w.at.Seg] = true
	for _, at := range w.places() {
		live[(at-4)/w.region.SegLen] = true
	}
	var l []int
	for seg, is := range live {
		if !is {
			l = append(l, seg)
		}
	}
	return l
}

// write is sectors written from first on, flushed.
func (w *twin) write(first int, l []api.Sector) {
	copy(w.disk[first:], l)
	w.done += len(l) + 1
}

func (w *twin) put(l []api.Item) ([]int, api.Errno) {
	if len(l) == 0 {
		return nil, api.OK
	}
	laid, at, _ := group.Lay(w.at.Seq, l)
	if len(laid) > w.region.SegLen {
		return nil, api.ErrArg
	}
	if w.at.Off+len(laid) > w.region.SegLen {
		if len(w.at.Free) == 0 {
			return nil, api.ErrSpace
		}
		w.at.Seg, w.at.Off, w.at.Free = w.at.Free[0], 0, slices.Clone(w.at.Free[1:])
	}
	first := place(w.region.Geom, w.at.Seg, w.at.Off)
	w.write(first, laid)
	for i := range at {
		at[i] += first
	}
	w.at.Off += len(laid)
	w.at.Seq += uint32(len(l)+23) / 24
	w.ages[w.at.Seg] = w.at.Seq - 1
	return at, api.OK
}

// differ is from where to where two pages differ.
func differ(a, b api.Page) (from, to int) {
	from, to = 32, 0
	for i := range a {
		if a[i] != b[i] {
			from, to = min(from, i), i+1
		}
	}
	return from, to
}

// commit is a Commit of wants that may be.
func (w *twin) commit(l []core.Want) api.Errno {
	var items []api.Item
	now := map[int]page{}
	for _, x := range l {
		p, is := w.pages[x.Id]
		from, to := differ(p.now, x.Now)
		switch {
		case x.Kind != api.Image:
			items, now[x.Id] = append(items, mark(x.Kind, x.Id)), page{}
		case is && p.now == x.Now:
		case is && len(p.places) < 3 && to-from <= 16:
			items = append(items, item(api.Block{Kind: api.Delta, Id: x.Id, Off: from, Bytes: x.Now[from:to], Prev: w.heads()[x.Id]}))
			now[x.Id] = page{x.Now, p.places}
		default:
			items, now[x.Id] = append(items, item(api.Block{Kind: api.Image, Id: x.Id, Page: x.Now})), page{x.Now, nil}
		}
	}
	places, e := w.put(items)
	for i := range places {
		x := items[i].Mark
		switch p := now[x.Id]; x.Kind {
		case api.Free:
			delete(w.pages, x.Id)
		case api.Alloc:
			w.pages[x.Id] = page{}
		default:
			w.pages[x.Id] = page{p.now, append(list(places[i]), p.places...)}
		}
	}
	return e
}

// move is a Move of pages that may be.
func (w *twin) move(l []int) api.Errno {
	var items []api.Item
	for _, id := range l {
		if p := w.pages[id]; len(p.places) > 0 {
			items = append(items, item(api.Block{Kind: api.Image, Id: id, Page: p.now}))
		}
	}
	places, e := w.put(items)
	for i := range places {
		id := items[i].Id
		w.pages[id] = page{w.pages[id].now, list(places[i])}
	}
	return e
}

// mappings are those mapping pages, and all whose heads differ from the Old ones.
func (w *twin) mappings(asked []int) []api.Item {
	var items []api.Item
	heads := w.heads()
	for id := range count(w.region.Geom) {
		end := min(8*id+8, len(heads))
		if slices.Contains(asked, id) || !slices.Equal(heads[8*id:end], w.old[8*id:end]) {
			items = append(items, item(mapping(id, heads[8*id:end]...)))
		}
	}
	return items
}

// checkpoint is a Checkpoint of mapping pages that may be.
func (w *twin) checkpoint(asked []int) api.Errno {
	items := w.mappings(asked)
	places, e := w.put(items)
	if e != api.OK {
		return e
	}
	for i, x := range items {
		w.region.Roots[x.Id] = places[i]
	}
	w.old = w.heads()
	w.region.Gen, w.region.Seg, w.region.Off, w.region.Seq = w.region.Gen+1, w.at.Seg, w.at.Off, w.at.Seq
	l, _ := region.Encode(w.region)
	w.write(int(w.region.Gen%2)*2, l[:])
	w.at.Free = w.frees()
	return api.OK
}

// number is beyond all that the segments have.
func (w *twin) number() uint64 {
	n := uint64(w.at.Seq)
	for _, s := range w.disk[4:total(w.region.Geom)] {
		if _, seq, e := block.Decode(s); e == api.OK {
			n = max(n, uint64(seq))
		}
		if x, e := summary.Decode(s); e == api.OK {
			n = max(n, uint64(x.Seq))
		}
	}
	return n + 64
}

// open is an Open of the device that the twin is of.
func (w *twin) open() api.Errno {
	if w.number() >= 1<<31 || w.region.Gen >= 1<<31 {
		return api.ErrCorrupt
	}
	w.at.Seq = uint32(w.number())
	w.ages = slices.Repeat([]uint32{w.at.Seq}, w.region.Segs)
	was := *w
	was.disk, was.ages = slices.Clone(w.disk), slices.Clone(w.ages)
	if w.checkpoint(nil) != api.OK || len(w.at.Free) == 0 {
		*w = was
		return api.ErrCorrupt
	}
	return api.OK
}

func sameAt(a, b journal.At) bool {
	return a.Seg == b.Seg && a.Off == b.Off && a.Seq == b.Seq && slices.Equal(a.Free, b.Free)
}

func same(a, b recover.State) bool {
	return a.Region == b.Region && slices.Equal(a.Heads, b.Heads) && slices.Equal(a.Old, b.Old) && sameAt(a.At, b.At)
}

// holds holds a core and its device against what they are to be.
func (w *twin) holds(t *testing.T, name string, d *dev.Dev, c *core.Core) {
	t.Helper()
	if l := sectors(d); !slices.Equal(l, w.disk) || d.Done() != w.done || d.Loose() != 0 {
		t.Errorf("%s: the device has not what it ought to have: %d done, not %d; %d loose", name, d.Done(), w.done, d.Loose())
		for i := range l {
			if l[i] != w.disk[i] {
				t.Errorf("%s: sector %d: %v, not %v", name, i, l[i], w.disk[i])
			}
		}
	}
	stays(t, name, d, func() { w.tells(t, name, c) })
	if c.Dead() {
		t.Errorf("%s: it is dead", name)
	}
}

// tells holds what a core tells, dead or not, against what it is to tell.
func (w *twin) tells(t *testing.T, name string, c *core.Core) {
	t.Helper()
	if s := c.State(); !same(s, w.state()) {
		t.Errorf("%s: state %+v, not %+v", name, s, w.state())
	}
	if l := c.Ages(); !slices.Equal(l, w.ages) {
		t.Errorf("%s: ages %v, not %v", name, l, w.ages)
	}
	if l := c.Places(); !slices.Equal(l, w.places()) {
		t.Errorf("%s: places %v, not %v", name, l, w.places())
	}
	for id := -1; id <= w.region.Pages; id++ {
		p, is := w.pages[id]
		want := api.OK
		switch {
		case id < 0 || id == w.region.Pages:
			want = api.ErrArg
		case !is:
			want = api.ErrNone
		}
		if x, e := c.Chain(id); e != want || x.Page != p.now || !slices.Equal(x.Places, p.places) {
			t.Errorf("%s: page %d: %+v, %d, not %+v, %d", name, id, x, e, p, want)
		}
	}
}

// formatted is a new core on a device, and its twin.
func formatted(t *testing.T, d *dev.Dev, g api.Geom) (*core.Core, *twin) {
	t.Helper()
	w := &twin{region: api.Region{Gen: 1, Geom: g, Seq: 1}, pages: map[int]page{}, old: make([]int, g.Pages), disk: sectors(d), done: d.Done()}
	w.write(0, make([]api.Sector, total(g)))
	l, _ := region.Encode(w.region)
	w.write(2, l[:])
	w.at = journal.At{Seq: 1, Free: list(1, 2, 3, 4, 5, 6, 7, 8, 9, 10, 11, 12, 13, 14, 15)[:g.Segs-1]}
	w.open()
	c, e := core.Format(d, g)
	if e != api.OK || c == nil {
		t.Fatalf("format: %d", e)
	}
	return c, w
}

// begun is a new core with its device and its twin, of the geometry of most tests.
func begun(t *testing.T) (*dev.Dev, *core.Core, *twin) {
	t.Helper()
	d := device(t, total(geom())+2)
	c, w := formatted(t, d, geom())
	return d, c, w
}

// opened opens a device as its twin does, and holds that both tell the same.
func opened(t *testing.T, name string, d *dev.Dev) (*core.Core, *twin) {
	t.Helper()
	w, e := twinOf(d)
	if e != api.OK || w.open() != api.OK {
		t.Fatalf("%s: it is to be opened: %d", name, e)
	}
	c, e := core.Open(d)
	if e != api.OK || c == nil {
		t.Fatalf("%s: open: %d", name, e)
	}
	w.holds(t, name, d, c)
	return c, w
}

// refused holds that a device is not opened, and is as it was.
func refused(t *testing.T, name string, d *dev.Dev, want api.Errno) {
	t.Helper()
	stays(t, name, d, func() {
		if c, e := core.Open(d); c != nil || e != want {
			t.Errorf("%s: %v, %d, not %d", name, c, e, want)
		}
	})
}

// does holds what a call that is handed what may be tells, and that all is as it is to be then.
func (w *twin) does(t *testing.T, name string, d *dev.Dev, c *core.Core, told, want api.Errno) {
	t.Helper()
	if told != want {
		t.Errorf("%s: %d, not %d", name, told, want)
	}
	w.holds(t, name, d, c)
}

// commits wants, of a core and of its twin.
func (w *twin) commits(t *testing.T, name string, d *dev.Dev, c *core.Core, l ...core.Want) {
	t.Helper()
	w.does(t, name, d, c, c.Commit(l), w.commit(l))
}

func (w *twin) moves(t *testing.T, name string, d *dev.Dev, c *core.Core, l ...int) {
	t.Helper()
	w.does(t, name, d, c, c.Move(l), w.move(l))
}

func (w *twin) checkpoints(t *testing.T, name string, d *dev.Dev, c *core.Core, l ...int) {
	t.Helper()
	w.does(t, name, d, c, c.Checkpoint(l), w.checkpoint(l))
}

// hasChain holds a page against its bytes and how many blocks it has.
func hasChain(t *testing.T, name string, c *core.Core, id, blocks int, l ...byte) {
	t.Helper()
	var want api.Page
	copy(want[:], l)
	if x, e := c.Chain(id); e != api.OK || x.Page != want || len(x.Places) != blocks {
		t.Errorf("%s: page %d: %+v, %d, not %v of %d blocks", name, id, x, e, want, blocks)
	}
}

// pagesOf are all pages that a core has.
func pagesOf(c *core.Core) map[int]api.Page {
	l := map[int]api.Page{}
	for id := range c.State().Heads {
		if x, e := c.Chain(id); e == api.OK {
			l[id] = x.Page
		}
	}
	return l
}

// P21.1: of each geometry, on a device with just as many sectors as it needs and with more, whatever stood on it: none's sectors, loose ones, a store of greater numbers.
func TestFormat(t *testing.T) {
	for _, g := range shapes() {
		for more := range 3 {
			d := device(t, total(g)+more)
			c, w := formatted(t, d, g)
			w.holds(t, "none's sectors", d, c)
			if l := sectors(d); more > 0 && l[total(g)] != sample(total(g)) {
				t.Errorf("the sector behind is %v", l[total(g)])
			}
			if s := c.State(); s.Region != (api.Region{Gen: 2, Geom: g, Seq: 65}) || s.At.Seg != 0 || s.At.Off != 0 || s.At.Seq != 65 || len(s.At.Free) != g.Segs-1 || c.Ages()[g.Segs-1] != 65 {
				t.Errorf("new: %+v, %v", s, c.Ages())
			}
			for i := range d.Len() {
				d.Write(i, sample(i+1))
			}
			c, w = formatted(t, d, g)
			w.holds(t, "loose ones", d, c)
			anchor.Write(d, api.Region{Gen: 900, Geom: g, Seg: 3, Off: 4, Seq: 700})
			anchor.Write(d, api.Region{Gen: 901, Geom: g, Seg: 3, Off: 4, Seq: 700})
			lay(t, d, total(g)-1, image(0, 1), 1<<31+5)
			d.Flush()
			c, w = formatted(t, d, g)
			w.holds(t, "another store", d, c)
			if more == 2 {
				opened(t, "a new one", d)
			}
		}
	}
}

// P21.1: a smaller geometry on a device that had a greater one.
func TestFormatOfAnother(t *testing.T) {
	d := device(t, 600)
	for _, g := range shapes() {
		c, w := formatted(t, d, g)
		w.holds(t, "another geometry", d, c)
		if most(g) > 0 {
			w.commits(t, "another geometry", d, c, whole(0, 1, 2))
			w.checkpoints(t, "another geometry", d, c)
		}
	}
}

// P21.1: no device, one with a sector too few, geometries that may not be: nothing is written.
func TestFormatOfNone(t *testing.T) {
	for _, g := range shapes() {
		if c, e := core.Format(nil, g); c != nil || e != api.ErrArg {
			t.Errorf("no device: %v, %d", c, e)
		}
		for _, n := range list(1, 4, total(g)-1) {
			d := device(t, n)
			stays(t, "too few sectors", d, func() {
				if c, e := core.Format(d, g); c != nil || e != api.ErrArg {
					t.Errorf("%d sectors: %v, %d", n, c, e)
				}
			})
		}
	}
	d := device(t, 1024)
	for _, n := range list(0, -1, math.MaxInt, math.MinInt, 1<<32+8) {
		for k := range 4 {
			g := geom()
			*[]*int{&g.Pages, &g.Segs, &g.SegLen, &g.Frames}[k] = n
			stays(t, "no geometry", d, func() {
				if c, e := core.Format(d, g); c != nil || e != api.ErrArg {
					t.Errorf("%+v: %v, %d", g, c, e)
				}
			})
		}
	}
	for _, g := range []api.Geom{{}, {Pages: 65, Segs: 6, SegLen: 24, Frames: 2}, {Pages: 1, Segs: 5, SegLen: 24, Frames: 2}, {Pages: 1, Segs: 17, SegLen: 24, Frames: 2}, {Pages: 1, Segs: 6, SegLen: 23, Frames: 2}, {Pages: 1, Segs: 6, SegLen: 33, Frames: 2}, {Pages: 1, Segs: 6, SegLen: 24, Frames: 1}, {Pages: 1, Segs: 6, SegLen: 24, Frames: 17}} {
		d.Fail(0)
		stays(t, "no geometry", d, func() {
			if c, e := core.Format(d, g); c != nil || e != api.ErrArg {
				t.Errorf("%+v: %v, %d", g, c, e)
			}
		})
	}
	if c, e := core.Format(&dev.Dev{}, geom()); c != nil || e != api.ErrArg {
		t.Errorf("no sectors: %v, %d", c, e)
	}
}

// P21.1: a Format that fails at each write and flush: the zeros go in order, all of them ahead of the first region, that one ahead of the one of Open.
func TestFormatFails(t *testing.T) {
	g := api.Geom{Pages: 9, Segs: 6, SegLen: 24, Frames: 2}
	n := total(g)
	for k := range n + 7 {
		d := device(t, n+1)
		done := d.Done()
		d.Fail(k)
		if c, e := core.Format(d, g); c != nil || e != api.ErrDevice || d.Done() != done+k {
			t.Errorf("cut at %d: %v, %d, %d done", k, c, e, d.Done()-done)
		}
		loose := []int{k, 0, 1, 2, 0, 1, 2}[max(0, k-n)]
		if d.Loose() != loose {
			t.Errorf("cut at %d: %d loose", k, d.Loose())
		}
		for i, s := range sectors(d) {
			if zeros := s == (api.Sector{}); i > 3 && zeros != (i < min(k, n)) || i > 3 && !zeros && s != sample(i) {
				t.Errorf("cut at %d: sector %d is %v", k, i, s)
			}
		}
		last := min(k, n) - 1 // the last of the zeros alone
		keep := make([]byte, n)
		if last >= 0 {
			keep[last] = 1
		}
		d.Crash(keep)
		for i, s := range sectors(d) {
			if k <= n && (s == api.Sector{}) != (i == last) {
				t.Errorf("cut at %d: sector %d is %v then", k, i, s)
			}
		}
		c, w := formatted(t, d, g)
		w.holds(t, "formatted again", d, c)
	}
	d := device(t, n)
	d.Fail(n + 7)
	if c, e := core.Format(d, g); c == nil || e != api.OK || d.Flush() != api.ErrDevice {
		t.Errorf("the failure behind it: %d", e)
	}
}

// P21.1: no device, a new one, a Format that was cut ahead of its first region, what recover.Load refuses: nothing is written.
func TestOpenOfNone(t *testing.T) {
	if c, e := core.Open(nil); c != nil || e != api.ErrArg {
		t.Errorf("no device: %v, %d", c, e)
	}
	if c, e := core.Open(&dev.Dev{}); c != nil || e != api.ErrCorrupt {
		t.Errorf("no sectors: %v, %d", c, e)
	}
	for _, n := range list(1, 4, 229, 1024) {
		refused(t, "none's sectors", device(t, n), api.ErrCorrupt)
		d, _ := dev.New(n)
		d.Fail(0)
		refused(t, "new", d, api.ErrCorrupt)
	}
	d, c, w := begun(t)
	w.commits(t, "a page", d, c, whole(3, 7))
	with := func(at int, s api.Sector) *dev.Dev {
		x := deviceOf(w.disk)
		x.Write(at, s)
		x.Flush()
		return x
	}
	opened(t, "half a group", with(5, sample(3)))
	other, _ := block.Encode(image(4, 7), 65)
	opened(t, "another page's group", with(5, other))
	w.checkpoints(t, "a root", d, c)
	for _, at := range list(0, 1, 2, 3, 4, 6) {
		if _, e := recover.Load(with(at, sample(3))); e != api.OK {
			refused(t, "turned", with(at, sample(3)), e)
		} else {
			opened(t, "turned", with(at, sample(3)))
		}
	}
	for _, at := range list(5, w.region.Roots[0]) {
		refused(t, "no block", with(at, sample(3)), api.ErrCorrupt)
		refused(t, "another page's block", with(at, other), api.ErrCorrupt)
	}
}

// atNumber is a device with a region of a Gen, whose next number is seq.
func atNumber(t *testing.T, gen, seq uint32) *dev.Dev {
	t.Helper()
	d := device(t, total(geom())+2)
	if e := anchor.Write(d, api.Region{Gen: gen, Geom: geom(), Seg: 2, Off: 3, Seq: seq}); e != api.OK {
		t.Fatalf("region: %d", e)
	}
	return d
}

// hasNumber opens a device: the next number is that, and all ages are.
func hasNumber(t *testing.T, name string, d *dev.Dev, want uint32) {
	t.Helper()
	c, w := opened(t, name, d)
	if s := c.State(); s.At.Seq != want || s.Region.Seq != want || !slices.Equal(c.Ages(), slices.Repeat([]uint32{want}, 9)) {
		t.Errorf("%s: %d, %d, %v, not %d", name, s.At.Seq, s.Region.Seq, c.Ages(), want)
	}
	w.commits(t, name, d, c, whole(1, 5))
}

// summed is the sector of a summary with a number.
func summed(t *testing.T, seq uint32) api.Sector {
	t.Helper()
	s, e := summary.Encode(summary.Summary{Seq: seq, Marks: []api.Mark{{Kind: api.Free, Id: 60}}})
	if e != api.OK {
		t.Fatalf("summary: %d", e)
	}
	return s
}

// P21.1: the next number is beyond that where the journal goes on, and that of any block or summary in a segment, live or not, in each sector; sectors outside the segments, and those that are neither, say none.
func TestNextNumber(t *testing.T) {
	hasNumber(t, "the region's", atNumber(t, 4, 500), 564)
	hasNumber(t, "none", atNumber(t, 4, 0), 64)
	for at := range total(geom()) + 2 {
		inside := at >= 4 && at < total(geom())
		for k, b := range []api.Block{image(40, 1), delta(63, 2, 900), mapping(7, 1, 5)} {
			if (at+k)%3 > 0 && at > 30 && at < 220 {
				continue
			}
			d := atNumber(t, 5, 30)
			want := uint32(94)
			if at != 2 && at != 3 { // where the region is
				lay(t, d, at, b, 1000)
			}
			if inside {
				want = 1064
			}
			hasNumber(t, "a block's", d, want)
		}
		d := atNumber(t, 4, 30)
		want := uint32(94)
		if at > 1 {
			d.Write(at, summed(t, 3000))
		}
		if inside {
			want = 3064
		}
		hasNumber(t, "a summary's", d, want)
	}
	for _, n := range []uint32{499, 500, 501} {
		d := atNumber(t, 4, 500)
		lay(t, d, 100, image(40, 1), n)
		hasNumber(t, "a block's beside the region's", d, max(564, n+64))
		d = atNumber(t, 4, 500)
		d.Write(100, summed(t, n))
		hasNumber(t, "a summary's beside the region's", d, max(564, n+64))
		d = atNumber(t, 4, 3)
		lay(t, d, 100, image(40, 1), n)
		d.Write(101, summed(t, 500))
		hasNumber(t, "both", d, max(564, n+64))
	}
	d := atNumber(t, 4, 500)
	lay(t, d, 100, image(40, 1), 900)
	s, _ := d.Read(100)
	s[63] = 1
	d.Write(100, s)
	s = summed(t, 900)
	s[63] = 1
	d.Write(101, s)
	hasNumber(t, "neither", d, 564)
	// the region's number is 30, and two groups of three parts in all go on from there
	d = atNumber(t, 4, 30)
	j, _ := journal.New(d, geom(), journal.At{Seg: 2, Off: 3, Seq: 30, Free: list(0, 1, 3, 4, 5, 6, 7, 8)})
	var l []api.Item
	for id := range 7 {
		l = append(l, mark(api.Free, id))
	}
	j.Put(l)
	j.Put(l[:1])
	d.Flush()
	hasNumber(t, "behind groups", d, 32+64)
}

// P21.1: the next number, and the region's Gen, up to 2^31 less 1, and from 2^31 on: that is refused, and nothing is written, by whatever sector it comes.
func TestGreatNumbers(t *testing.T) {
	hasNumber(t, "the region's", atNumber(t, 4, 1<<31-65), 1<<31-1)
	d := atNumber(t, 4, 5)
	lay(t, d, 99, image(40, 1), 1<<31-65)
	hasNumber(t, "a block's", d, 1<<31-1)
	d = atNumber(t, 4, 5)
	d.Write(99, summed(t, 1<<31-65))
	hasNumber(t, "a summary's", d, 1<<31-1)
	for _, n := range []uint32{1<<31 - 64, 1 << 31, 1<<31 + 1, math.MaxUint32 - 64, math.MaxUint32 - 63, math.MaxUint32} {
		refused(t, "the region's", atNumber(t, 4, n), api.ErrCorrupt)
		d := atNumber(t, 4, 5)
		lay(t, d, 99, image(40, 1), n)
		refused(t, "a block's", d, api.ErrCorrupt)
		d = atNumber(t, 4, 5)
		d.Write(99, summed(t, n))
		refused(t, "a summary's", d, api.ErrCorrupt)
		d = atNumber(t, 4, 5)
		lay(t, d, total(geom()), image(40, 1), n)
		d.Write(0, summed(t, n))
		d.Write(1, summed(t, n))
		d = deviceOf(sectors(d))
		anchor.Write(d, api.Region{Gen: 5, Geom: geom(), Seg: 2, Off: 3, Seq: 5})
		hasNumber(t, "outside the segments", d, 69)
	}
	for _, gen := range []uint32{0, 1, 1<<31 - 2, 1<<31 - 1} {
		d := atNumber(t, gen, 5)
		if c, w := opened(t, "a generation", d); c.State().Region.Gen != gen+1 || w.region.Gen != gen+1 {
			t.Errorf("generation %d: %+v", gen, c.State().Region)
		}
	}
	for _, gen := range []uint32{1 << 31, 1<<31 + 1, math.MaxUint32 - 1, math.MaxUint32} {
		refused(t, "a generation", atNumber(t, gen, 5), api.ErrCorrupt)
	}
}

// P21.1: no head that differs from its Old one: the region alone; heads of one mapping page, of several, of all: these mapping pages go ahead of it; ages, and what is free.
func TestOpenWritesMappingPages(t *testing.T) {
	g := shapes()[2] // 64 pages in 8 mapping pages, of which 13 may be allocated
	for _, ids := range [][]int{{}, {0}, {7}, {63}, {8, 9, 15}, {3, 20}, {7, 8}, {1, 17, 40, 63}, {0, 8, 16, 24, 32, 40, 48, 56}, {7, 15, 23, 31, 39, 47, 55, 63}} {
		d := device(t, total(g)+1)
		c, w := formatted(t, d, g)
		w.commits(t, "ahead", d, c, whole(5, 1), alloc(30), whole(50, 4))
		w.checkpoints(t, "ahead", d, c)
		var l []core.Want
		touched := map[int]int{}
		for k, id := range ids {
			l = append(l, []core.Want{whole(id, byte(id+1)), alloc(id)}[k%2])
			touched[id/8] = 1
		}
		w.commits(t, "pages", d, c, l...)
		was, pages := w.state(), pagesOf(c)
		c, w = opened(t, "opened", d)
		s := c.State()
		for id, root := range s.Region.Roots {
			if (root != was.Region.Roots[id]) != (touched[id] == 1) {
				t.Errorf("%v: root %d is %d, was %d", ids, id, root, was.Region.Roots[id])
			}
		}
		sum := 0
		if len(ids) > 0 {
			sum = 1 + len(touched)
		}
		if s.At.Off != was.At.Off+sum || !slices.Equal(s.Heads, was.Heads) || !slices.Equal(s.Old, was.Heads) || !maps.Equal(pagesOf(c), pages) {
			t.Errorf("%v: %+v, was %+v", ids, s, was)
		}
		for range 2 {
			done := d.Done()
			c, w = opened(t, "opened again", d)
			if d.Done() != done+3 || !maps.Equal(pagesOf(c), pages) || c.State().At.Off != s.At.Off || c.State().Region.Roots != s.Region.Roots {
				t.Errorf("%v: opened again: %+v, %d done", ids, c.State(), d.Done()-done)
			}
		}
		w.commits(t, "goes on", d, c, whole(61, 9))
	}
}

// crowd is a device with live blocks in most segments: in 0 to 6 pages' (but those left out), in 7 the roots.
type crowd struct {
	room   int   // sectors from where the journal goes on, in segment 8
	turned bool  // the last group behind the region turned a head of mapping page 0
	apart  bool  // root 1 stands in segment 6
	held   bool  // segment 8 has a page's block
	out    []int // segments without a page's block
}

func (x crowd) device(t *testing.T) *dev.Dev {
	t.Helper()
	g := geom()
	d := device(t, total(g))
	heads := make([]int, 16)
	for seg := range 7 {
		id := []int{0, 1, 9, 10}[seg/2]
		heads[id] = max(heads[id], api.Zeros)
		if !slices.Contains(x.out, seg) {
			at := place(g, seg, 3)
			lay(t, d, at, delta(id, byte(seg), heads[id]), 5)
			heads[id] = at
		}
	}
	if x.held {
		heads[11] = place(g, 8, 1)
		lay(t, d, heads[11], image(11, 3), 5)
	}
	r := api.Region{Gen: 3, Geom: g, Seg: 8, Off: g.SegLen - x.room, Seq: 20, Roots: [8]int{place(g, 7, 1), place(g, 7, 0)}}
	if x.apart {
		r.Roots[1] = place(g, 6, 9)
	}
	lay(t, d, r.Roots[0], mapping(0, heads[:8]...), 6)
	lay(t, d, r.Roots[1], mapping(1, heads[8:]...), 7)
	if x.turned {
		r.Off--
		l, _, _ := group.Lay(20, []api.Item{mark(api.Alloc, 4)})
		d.Write(place(g, 8, r.Off), l[0])
	}
	anchor.Write(d, r)
	return d
}

// P21.1: room for the group of the mapping pages that were turned, where the journal is or in a free segment, and a free segment behind it: what has none is refused, and nothing is written.
func TestOpenNeedsRoom(t *testing.T) {
	for i, x := range []struct {
		crowd
		ok bool
	}{
		{crowd{room: 24}, false},
		{crowd{room: 23, apart: true, held: true}, false},
		{crowd{room: 0, held: true, out: list(3)}, true},
		{crowd{room: 0, held: true, out: list(0, 6)}, true},
		{crowd{room: 2, turned: true}, false},
		{crowd{room: 23, turned: true}, false},
		{crowd{room: 1, turned: true}, false},
		{crowd{room: 0, turned: true}, false},
		{crowd{room: 2, turned: true, apart: true}, true}, // segment 7 is free behind it
		{crowd{room: 2, turned: true, apart: true, held: true}, true},
		{crowd{room: 1, turned: true, apart: true}, false},
		{crowd{room: 1, turned: true, out: list(3)}, true}, // segment 8 is
		{crowd{room: 1, turned: true, held: true, out: list(3)}, false},
		{crowd{room: 0, turned: true, held: true, out: list(6)}, false},
		{crowd{room: 2, turned: true, held: true, out: list(3)}, true},
		{crowd{room: 1, turned: true, held: true, out: list(3, 5)}, true},
		{crowd{room: 1, turned: true, held: true, apart: true, out: list(0)}, true},
		{crowd{room: 2, turned: true, held: true, apart: true, out: list(6)}, true},
	} {
		d := x.device(t)
		w, e := twinOf(d)
		if e != api.OK {
			t.Fatalf("crowd %d: %d", i, e)
		}
		if (w.open() == api.OK) != x.ok {
			t.Errorf("crowd %d: its twin says %v", i, !x.ok)
		}
		if !x.ok {
			refused(t, "crowd", d, api.ErrCorrupt)
			d.Fail(0) // what is wrong goes ahead of what would fail
			refused(t, "crowd", d, api.ErrCorrupt)
			continue
		}
		c, w := opened(t, "crowd", d)
		w.checkpoints(t, "crowd", d, c, 0, 1)
	}
}

// P21.1: groups behind the region that went through the last free segment, and left the one ahead without a live block: that is free behind the new region.
func TestOpenFreesSegments(t *testing.T) {
	d := crowd{room: 1, turned: true, out: list(3)}.device(t)
	s, _ := recover.Load(d)
	j, _ := journal.New(d, geom(), s.At)
	j.Put([]api.Item{item(image(9, 77))}) // no room in segment 8
	if at := j.At(); at.Seg != 3 || len(at.Free) != 0 {
		t.Fatalf("at %+v", at)
	}
	c, w := opened(t, "freed", d)
	if l := c.State().At.Free; !slices.Contains(l, 8) || slices.Contains(l, 3) {
		t.Errorf("free: %v", l)
	}
	w.commits(t, "freed", d, c, whole(9, 1, 2, 3))
}

// anyStore lays pages' blocks anyhow, the mapping pages and a region over them, and groups behind it: a right device, or nearly so.
func anyStore(t *testing.T, g api.Geom, next func(n int) int) *dev.Dev {
	t.Helper()
	d := device(t, total(g)+next(2))
	r := api.Region{Gen: uint32(next(9)), Geom: g, Seg: next(g.Segs), Off: next(g.SegLen + 1), Seq: uint32(next(50))}
	taken, turn := map[int]int{}, next(g.Segs)
	somewhere := func() int {
		for {
			turn++ // most segments shall have something
			seg, off := turn%g.Segs, next(g.SegLen)
			at := place(g, seg, off)
			if taken[at]++; taken[at] == 1 && (seg != r.Seg || off < r.Off) {
				return at
			}
		}
	}
	heads := make([]int, 8*count(g))
	for range next(most(g) + 1) {
		id := next(g.Pages)
		heads[id] = api.Zeros
		for k := range next(4) {
			at := somewhere()
			b := delta(id, byte(next(9)), heads[id])
			if k == 0 && seldom(next, 2) {
				b = image(id, byte(next(9)))
			}
			lay(t, d, at, b, uint32(next(300)))
			heads[id] = at
		}
	}
	for id := range count(g) {
		l := heads[8*id : 8*id+8]
		if slices.Max(l) > 0 || seldom(next, 3) {
			r.Roots[id] = somewhere()
			lay(t, d, r.Roots[id], mapping(id, l...), uint32(next(300)))
		}
	}
	anchor.Write(d, r)
	return d
}

// behind puts groups behind a store's region, as a core does.
func behind(t *testing.T, d *dev.Dev, next func(n int) int) {
	t.Helper()
	w, e := twinOf(d)
	if e != api.OK {
		t.Fatalf("a store: %d", e)
	}
	w.ages = make([]uint32, w.region.Segs)
	for range next(4) {
		w.commit(anyWants(w, next))
	}
	for i, s := range w.disk {
		d.Write(i, s)
	}
	d.Flush()
}

// anyWants are some that a core of these pages may be asked for.
func anyWants(w *twin, next func(n int) int) []core.Want {
	var l []core.Want
	pages := len(w.pages)
	for id := next(6); id < w.region.Pages; id += 1 + next(7) {
		x := core.Want{Id: id, Kind: api.Image, Now: w.pages[id].now}
		p, is := w.pages[id]
		switch n := next(10); {
		case !is && pages >= most(w.region.Geom):
			if x.Kind = api.Free; n > 2 {
				continue
			}
		case is && n == 0:
			x.Kind, pages = api.Free, pages-1
		case n == 1:
			x.Kind = api.Alloc
		case n == 2: // as it is
		case n < 7:
			at := next(32 - len(p.places))
			for k := range 1 + next(4) {
				x.Now[min(31, at+next(18)*k)] = byte(next(4))
			}
		default:
			x.Now[0]++
			x.Now[31] ^= byte(next(2))
			x.Now[16+next(3)]++
		}
		if !is && x.Kind != api.Free {
			pages++
		}
		l = append(l, x)
	}
	return l
}

// P21.1: devices laid anyhow, opened and refused, held against the twin; opened twice they tell the same pages.
func TestAnyOpen(t *testing.T) {
	next := pick(5)
	told := map[api.Errno]int{}
	for round := range 1500 {
		g := shapes()[list(0, 1, 1, 4, 5, 3, 2)[round%7]]
		d := anyStore(t, g, next)
		behind(t, d, next)
		w, e := twinOf(d)
		if e != api.OK {
			t.Fatalf("any: %d", e)
		}
		was := w.heads()
		e = w.open()
		told[e]++
		if e != api.OK {
			refused(t, "any", d, api.ErrCorrupt)
			continue
		}
		c, _ := opened(t, "any", d)
		pages := pagesOf(c)
		if s := c.State(); !slices.Equal(s.Heads, was) || !slices.Equal(s.Old, was) {
			t.Errorf("any: %+v, with the heads %v", s, was)
		}
		c, w = opened(t, "any again", d)
		if !maps.Equal(pagesOf(c), pages) {
			t.Errorf("opened twice: %v, not %v", pagesOf(c), pages)
		}
		w.commits(t, "any", d, c, anyWants(w, next)...)
	}
	if told[api.OK] < 300 || told[api.ErrCorrupt] < 20 {
		t.Errorf("told: %v", told)
	}
}

// P21.1: an Open that fails at each write and flush, with a group of mapping pages and without one; what is opened then is as it was.
func TestOpenFails(t *testing.T) {
	for _, n := range list(0, 1, 2) {
		d, c, w := begun(t)
		w.commits(t, "ahead", d, c, whole(3, 1), whole(9, 2))
		w.checkpoints(t, "ahead", d, c)
		w.commits(t, "ahead", d, c, wants(whole(3, 1, 2), alloc(10))[:n]...)
		all := 3
		if n > 0 {
			all += n + 2
		}
		for k := range all {
			d := deviceOf(w.disk)
			done := d.Done()
			d.Fail(k)
			if c, e := core.Open(d); c != nil || e != api.ErrDevice || d.Done() != done+k {
				t.Errorf("cut at %d: %v, %d, %d done", k, c, e, d.Done()-done)
			}
			d.Crash(nil)
			o, _ := opened(t, "cut", d)
			if !maps.Equal(pagesOf(o), pagesOf(c)) {
				t.Errorf("cut at %d: %v", k, pagesOf(o))
			}
		}
		d = deviceOf(w.disk)
		d.Fail(all)
		if c, e := core.Open(d); c == nil || e != api.OK || d.Flush() != api.ErrDevice {
			t.Errorf("the failure behind it: %d", e)
		}
	}
}

// P21.2: each kind of want, of a page that is not there, that is zeros, that has blocks; the chapter's example.
func TestCommit(t *testing.T) {
	d, c, w := begun(t)
	w.commits(t, "all kinds", d, c, whole(0, 1, 2), alloc(3), free(4), whole(11))
	hasChain(t, "an image", c, 0, 1, 1, 2)
	hasChain(t, "zeros", c, 3, 0)
	hasChain(t, "an image of zeros", c, 11, 1)
	if s := c.State(); !slices.Equal(s.Heads, list(5, 0, 0, 1, 0, 0, 0, 0, 0, 0, 0, 6)) || s.At.Off != 3 || s.At.Seq != 66 || slices.Max(s.Old) != 0 {
		t.Errorf("state: %+v", s)
	}
	w.commits(t, "over them", d, c, whole(0, 1, 3), whole(3, 0, 5), alloc(11))
	hasChain(t, "a delta", c, 0, 2, 1, 3)
	hasChain(t, "a delta of zeros", c, 3, 1, 0, 5)
	hasChain(t, "zeros again", c, 11, 0)
	w.commits(t, "zeros as they are", d, c, alloc(11))
	w.commits(t, "freed", d, c, free(0), free(3), free(11))
	if l := c.Places(); len(l) != 0 {
		t.Errorf("places: %v", l)
	}
	w.commits(t, "freed again", d, c, free(0))
	w.commits(t, "there again", d, c, whole(0, 9), alloc(3))
	d.Crash(nil)
	o, _ := opened(t, "behind a crash", d)
	hasChain(t, "behind a crash", o, 0, 1, 9)
	hasChain(t, "behind a crash", o, 3, 0)
}

// P21.2: an Image near what the page was, in each place, as far apart as a delta may be and one more; what it was may be zeros.
func TestCommitNearAndFar(t *testing.T) {
	for from := range 32 {
		for to := from; to < 32; to++ {
			for _, over := range []core.Want{alloc(5), whole(5, 3, 1, 4, 1, 5, 9, 2, 6)} {
				d, c, w := begun(t)
				w.commits(t, "ahead", d, c, over)
				was, _ := c.Chain(5)
				now := over
				now.Kind = api.Image
				now.Now[from] += 7
				now.Now[to] += 9
				w.commits(t, "turned", d, c, now)
				x, e := c.Chain(5)
				blocks := len(was.Places) + 1
				if to-from >= 16 {
					blocks = 1
				}
				if e != api.OK || x.Page != now.Now || len(x.Places) != blocks {
					t.Errorf("bytes %d to %d: %+v, %d", from, to, x, e)
				}
			}
		}
	}
}

// P21.2: a chain as long as may be is written whole; over zeros it has a delta more; what was below an image is live no longer.
func TestCommitOfFullChains(t *testing.T) {
	for _, first := range []core.Want{whole(7, 1), alloc(7)} {
		d, c, w := begun(t)
		w.commits(t, "first", d, c, first)
		had, _ := c.Chain(7)
		for n := range 9 {
			w.commits(t, "one byte", d, c, whole(7, 1, 0, byte(n+1)))
			x, _ := c.Chain(7)
			if want := (len(had.Places)+n)%3 + 1; len(x.Places) != want {
				t.Errorf("%d times: %v, not %d blocks", n+1, x.Places, want)
			}
		}
	}
}

// P21.2: nothing to write, or no want: no write, no flush; the same page beside others is left out.
func TestCommitOfNothing(t *testing.T) {
	d, c, w := begun(t)
	w.commits(t, "none", d, c)
	w.commits(t, "ahead", d, c, whole(1, 5), alloc(2), whole(4, 6))
	d.Fail(0)
	for _, l := range [][]core.Want{nil, {}, {whole(1, 5)}, {whole(2)}, {whole(1, 5), whole(2), whole(4, 6)}} {
		w.commits(t, "nothing", d, c, l...)
	}
	d.Fail(-1)
	w.commits(t, "one of three", d, c, whole(1, 5), whole(2, 9), whole(4, 6))
	hasChain(t, "beside", c, 1, 1, 5)
	hasChain(t, "one", c, 2, 1, 0x9)
	w.commits(t, "marks beside", d, c, whole(1, 5), free(2), whole(4, 6))
}

// P21.2: Ids that do not rise, that are no pages, kinds that are none: nothing is written, and all is as it was; what is told of each alone is told of it among others.
func TestCommitOfWrong(t *testing.T) {
	for _, g := range shapes() {
		if most(g) == 0 {
			continue
		}
		d := device(t, total(g))
		c, w := formatted(t, d, g)
		w.commits(t, "ahead", d, c, whole(0, 5))
		wrong := func(l ...core.Want) {
			t.Helper()
			if e := c.Commit(l); e != api.ErrArg {
				t.Errorf("%+v: %d", l, e)
			}
			w.holds(t, "wrong", d, c)
		}
		for _, id := range list(-1, g.Pages, 64, 65, 1<<32, math.MaxInt, math.MinInt) {
			for _, kind := range list(api.Image, api.Alloc, api.Free) {
				wrong(core.Want{Id: id, Kind: kind})
				wrong(alloc(0), core.Want{Id: id, Kind: kind})
				wrong(core.Want{Id: id, Kind: kind}, alloc(0))
			}
		}
		for _, kind := range list(0, api.Delta, api.Map, 6, -1, 257, 1<<32+1, math.MaxInt, math.MinInt) {
			wrong(core.Want{Id: 0, Kind: kind})
			if g.Pages > 1 {
				wrong(core.Want{Id: 0, Kind: kind}, alloc(1))
				wrong(alloc(0), core.Want{Id: 1, Kind: kind})
			}
		}
		for _, kind := range list(api.Image, api.Alloc, api.Free) {
			wrong(core.Want{Id: 0, Kind: kind}, whole(0, 5))
			wrong(whole(0, 5), core.Want{Id: 0, Kind: kind}) // the first alone is nothing to write
			if g.Pages > 8 {
				wrong(alloc(8), core.Want{Id: 7, Kind: kind})
				wrong(alloc(0), alloc(8), core.Want{Id: 8, Kind: kind})
				wrong(alloc(1), alloc(2), core.Want{Id: 0, Kind: kind})
			}
		}
		w.commits(t, "right again", d, c, core.Want{Id: 0, Kind: api.Free, Now: api.Page{9}})
		w.commits(t, "right again", d, c, core.Want{Id: 0, Kind: api.Alloc, Now: api.Page{9}})
	}
}

// P21.2: more than a segment takes: the journal's ErrArg, and nothing is changed; as much as it takes, in parts; a mark has no sector.
func TestCommitOfMany(t *testing.T) {
	g := shapes()[2]
	d := device(t, total(g))
	c, w := formatted(t, d, g)
	var all []core.Want
	for id := range 64 {
		all = append(all, free(id))
	}
	w.commits(t, "64 marks", d, c, all...)
	if at := c.State().At; at.Off != 3 || at.Seq != 68 || c.Ages()[0] != 67 {
		t.Errorf("at %+v, %v", at, c.Ages())
	}
	for id := range 64 {
		all[id] = whole(id, byte(id))
	}
	for _, n := range list(64, 40, 31) {
		w.commits(t, "too many", d, c, all[:n]...)
	}
	w.commits(t, "a segment", d, c, all[:30]...)
	if at := c.State().At; at.Seg != 1 || at.Off != 32 || c.Ages()[1] != 69 || c.Ages()[0] != 67 {
		t.Errorf("at %+v, %v", at, c.Ages())
	}
}

// filled plays a core till its log has no free segment, and no more room than that.
func filled(t *testing.T, room int) (*dev.Dev, *core.Core, *twin) {
	t.Helper()
	d, c, w := begun(t)
	for n := byte(0); len(w.at.Free) > 0 || 25-w.at.Off >= room+4; n++ {
		w.commits(t, "filling", d, c, whole(2, n, 31), whole(3, n+5, 7))
	}
	for 25-w.at.Off > room {
		w.commits(t, "filling", d, c, free(9))
	}
	if len(w.at.Free) > 0 || w.at.Off != 25-room {
		t.Fatalf("not filled: %+v", w.at)
	}
	return d, c, w
}

// P21.2, P21.3: no room: ErrSpace, and nothing is changed, nothing written; it is not dead; what has room is written.
func TestNoSpace(t *testing.T) {
	for room := range 4 {
		d, c, w := filled(t, room)
		tell := func(name string, e api.Errno, n int) {
			t.Helper()
			want := api.OK
			if n > room {
				want = api.ErrSpace
			}
			if e != want {
				t.Errorf("%s, room for %d: %d", name, room, e)
			}
			if want == api.ErrSpace {
				w.holds(t, name, d, c)
			}
		}
		tell("three images", c.Commit(wants(whole(2, 99), whole(3, 99), whole(4, 99))), 4)
		d, c, w = filled(t, room)
		tell("an image and a mark", c.Commit(wants(whole(2, 99), free(3))), 2)
		d, c, w = filled(t, room)
		tell("a mark", c.Commit(wants(free(3))), 1)
		d, c, w = filled(t, room)
		tell("a page moved", c.Move(list(2)), 2)
		d, c, w = filled(t, room)
		tell("two pages moved", c.Move(list(2, 3)), 3)
		d, c, w = filled(t, room)
		tell("a mapping page", c.Checkpoint(nil), 2)
		d, c, w = filled(t, room)
		tell("two mapping pages", c.Checkpoint(list(1)), 3)
	}
	d, c, w := filled(t, 3)
	w.checkpoints(t, "made room", d, c, 0, 1)
	w.commits(t, "goes on", d, c, whole(2, 1), whole(3, 2), whole(4, 3))
	for room := range 4 { // nor has an Open what a Checkpoint has not
		d, c, w := filled(t, room)
		if room < 2 {
			refused(t, "no room", d, api.ErrCorrupt)
			w.holds(t, "no room", d, c)
			continue
		}
		c, w = opened(t, "just enough room", d)
		w.commits(t, "goes on", d, c, whole(2, 1), whole(3, 2), whole(4, 3))
	}
}

// P21.2: pages moved: chains of one block to three, over zeros too, zeros, pages that are not there; they are images in another place, and what they were.
func TestMove(t *testing.T) {
	d, c, w := begun(t)
	w.commits(t, "ahead", d, c, whole(0, 1, 2), alloc(3), whole(5, 3), alloc(6), whole(9, 4))
	w.commits(t, "ahead", d, c, whole(0, 1, 3), whole(5, 4), whole(6, 1))
	w.commits(t, "ahead", d, c, whole(0, 1, 4), whole(6, 1, 2))
	w.commits(t, "ahead", d, c, whole(6, 1, 2, 3))
	for _, l := range [][]int{{0}, {6}, {0, 3, 6}, {0, 1, 2, 3, 4, 5, 6, 7, 8, 9, 10, 11}} {
		was, pages := c.Places(), pagesOf(c)
		w.moves(t, "moved", d, c, l...)
		for _, id := range l {
			x, e := c.Chain(id)
			if e == api.OK && id != 3 && (len(x.Places) != 1 || slices.Contains(was, x.Places[0])) {
				t.Errorf("%v: page %d: %+v", l, id, x)
			}
		}
		if !maps.Equal(pages, pagesOf(c)) {
			t.Errorf("%v: %v, not %v", l, pagesOf(c), pages)
		}
		if s := c.State(); slices.Max(s.Old) != 0 || s.Region.Roots != [8]int{} {
			t.Errorf("%v: %+v", l, s)
		}
	}
	d.Fail(0)
	for _, l := range [][]int{nil, {}, {3}, {1, 2, 3, 4}, {11}} {
		w.moves(t, "nothing", d, c, l...)
	}
	d.Crash(nil)
	o, _ := opened(t, "moved", d)
	if !maps.Equal(pagesOf(o), pagesOf(c)) {
		t.Errorf("opened: %v, not %v", pagesOf(o), pagesOf(c))
	}
}

// P21.2: pages that do not rise, or are none: nothing is written, and all is as it was.
func TestMoveOfWrong(t *testing.T) {
	for _, g := range shapes() {
		d := device(t, total(g))
		c, w := formatted(t, d, g)
		if most(g) > 0 {
			w.commits(t, "ahead", d, c, whole(0, 5))
		}
		for _, l := range [][]int{{-1}, {g.Pages}, {0, g.Pages}, {64}, {math.MaxInt}, {math.MinInt}, {1 << 32}, {0, 0}, {0, 1, 0}, {1, 0}, {-1, 0}, {0, -1}, {g.Pages - 1, g.Pages - 1}, {g.Pages - 1, g.Pages - 2}} {
			if e := c.Move(l); e != api.ErrArg {
				t.Errorf("%v of %d pages: %d", l, g.Pages, e)
			}
			w.holds(t, "wrong", d, c)
		}
	}
}

// P21.2: the age of the segment that is written is the number ahead of the next one, by Commit, Move and Checkpoint; those of the others stay.
func TestAges(t *testing.T) {
	d, c, w := begun(t)
	seen := map[int]int{}
	for n := range 120 {
		was := c.Ages()
		switch {
		case n%30 == 7:
			w.checkpoints(t, "aging", d, c, 0)
		case n%4 == 1:
			w.moves(t, "aging", d, c, 4)
		default:
			w.commits(t, "aging", d, c, whole(4, byte(n), 31), whole(7, byte(n), 3))
		}
		now, at := c.Ages(), c.State().At
		if now[at.Seg] != at.Seq-1 {
			t.Errorf("segment %d: %d, the next number is %d", at.Seg, now[at.Seg], at.Seq)
		}
		was[at.Seg] = now[at.Seg]
		seen[at.Seg]++
		if !slices.Equal(was, now) {
			t.Errorf("ages: %v, not %v", now, was)
		}
	}
	if len(seen) < 5 {
		t.Errorf("segments: %v", seen)
	}
	w.checkpoints(t, "a group", d, c)
	was := c.Ages()
	w.commits(t, "nothing", d, c)
	w.moves(t, "nothing", d, c)
	w.checkpoints(t, "no group", d, c)
	if !slices.Equal(was, c.Ages()) {
		t.Errorf("ages: %v, not %v", c.Ages(), was)
	}
}

// P21.3: none asked and none turned, some turned and others asked, all: roots, Old heads, the region's Gen, Seg, Off and Seq.
func TestCheckpoint(t *testing.T) {
	g := shapes()[2]
	for asked := range 256 {
		d := device(t, total(g))
		c, w := formatted(t, d, g)
		var maps []int
		for id := range 8 {
			if asked>>id&1 == 1 {
				maps = append(maps, id)
			}
		}
		turned := []core.Want{whole(1+asked%3*8, 4), alloc(25 + asked%4*8), whole(63, 3)}[:asked%4]
		w.commits(t, "turned", d, c, turned...)
		was := c.State()
		w.checkpoints(t, "checkpoint", d, c, maps...)
		s := c.State()
		if s.Region.Gen != was.Region.Gen+1 || s.Region.Seg != s.At.Seg || s.Region.Off != s.At.Off || s.Region.Seq != s.At.Seq || !slices.Equal(s.Old, was.Heads) || !slices.Equal(s.Heads, was.Heads) {
			t.Errorf("%v: %+v, was %+v", maps, s, was)
		}
		for id, root := range s.Region.Roots {
			is := slices.Contains(maps, id)
			for _, x := range turned {
				is = is || x.Id/8 == id
			}
			if (root != was.Region.Roots[id]) != is {
				t.Errorf("%v, %v turned: root %d is %d", maps, turned, id, root)
			}
		}
		done := d.Done()
		w.checkpoints(t, "none turned", d, c)
		if d.Done() != done+3 || c.State().Region.Roots != s.Region.Roots || c.State().At.Off != s.At.Off {
			t.Errorf("%v: none turned: %+v, was %+v", maps, c.State(), s)
		}
		r, e := anchor.Newest(d)
		if e != api.OK || r != c.State().Region {
			t.Errorf("%v: on the device %+v, not %+v", maps, r, c.State().Region)
		}
		o, _ := opened(t, "checkpoint", d)
		if !slices.Equal(o.State().Heads, was.Heads) {
			t.Errorf("%v: opened: %+v", maps, o.State())
		}
	}
}

// P21.3: a head that was turned and turned back needs no mapping page.
func TestCheckpointOfTurnedBack(t *testing.T) {
	d, c, w := begun(t)
	w.commits(t, "there", d, c, alloc(2), whole(9, 1))
	w.checkpoints(t, "there", d, c)
	w.commits(t, "gone", d, c, free(2))
	w.commits(t, "back", d, c, alloc(2))
	was, done := c.State(), d.Done()
	w.checkpoints(t, "back", d, c)
	if d.Done() != done+3 || c.State().Region.Roots != was.Region.Roots {
		t.Errorf("back: %+v, was %+v", c.State(), was)
	}
	w.commits(t, "gone", d, c, free(2))
	w.checkpoints(t, "gone", d, c)
	if l := c.State().Region.Roots; l[0] == was.Region.Roots[0] || l[1] != was.Region.Roots[1] {
		t.Errorf("gone: %v, was %v", l, was.Region.Roots)
	}
}

// P21.3: what is free behind it: each segment without a live place, but the one that is written; ahead of it none is free again.
func TestCheckpointFrees(t *testing.T) {
	d, c, w := begun(t)
	w.commits(t, "stays", d, c, whole(1, 9))
	for n := byte(1); w.at.Seg < 5; n++ {
		w.commits(t, "through", d, c, whole(4, n, 31), whole(7, n, 3))
	}
	if l := c.State().At.Free; !slices.Equal(l, list(6, 7, 8)) {
		t.Errorf("ahead: %v", l)
	}
	w.moves(t, "together", d, c, 4, 7)
	if l := c.State().At.Free; !slices.Equal(l, list(6, 7, 8)) {
		t.Errorf("moved: %v", l)
	}
	w.checkpoints(t, "freed", d, c)
	if l := c.State().At.Free; !slices.Equal(l, list(1, 2, 3, 4, 6, 7, 8)) {
		t.Errorf("behind: %v", l)
	}
	w.moves(t, "the last one", d, c, 1)
	w.checkpoints(t, "the last one", d, c)
	if l := c.State().At.Free; !slices.Equal(l, list(0, 1, 2, 3, 4, 6, 7, 8)) {
		t.Errorf("behind: %v", l)
	}
	for range 12 {
		w.checkpoints(t, "roots alone", d, c, 0, 1)
	}
	if at := c.State().At; at.Seg != 0 || !slices.Equal(at.Free, list(1, 2, 3, 4, 6, 7, 8)) {
		t.Errorf("roots: %+v", at)
	}
}

// P21.3: maps that do not rise, or are no mapping pages: nothing is written, and all is as it was.
func TestCheckpointOfWrong(t *testing.T) {
	for _, g := range shapes() {
		d := device(t, total(g))
		c, w := formatted(t, d, g)
		if most(g) > 0 {
			w.commits(t, "ahead", d, c, whole(0, 5))
		}
		n := count(g)
		for _, l := range [][]int{{-1}, {n}, {0, n}, {8}, {math.MaxInt}, {math.MinInt}, {1 << 32}, {0, 0}, {0, 1, 0}, {1, 0}, {-1, 0}, {0, -1}, {n - 1, n - 1}, {n - 1, n - 2}} {
			if e := c.Checkpoint(l); e != api.ErrArg {
				t.Errorf("%v of %d mapping pages: %d", l, n, e)
			}
			w.holds(t, "wrong", d, c)
		}
		var all []int
		for id := range n {
			all = append(all, id)
		}
		w.checkpoints(t, "all", d, c, all...)
	}
}

// grown is a core with pages of all kinds, some of which its mapping pages do not say yet.
func grown(t *testing.T) (*dev.Dev, *core.Core, *twin) {
	t.Helper()
	d, c, w := begun(t)
	w.commits(t, "ahead", d, c, whole(0, 1, 2), alloc(3), whole(9, 4), whole(10, 8))
	w.checkpoints(t, "ahead", d, c)
	w.commits(t, "ahead", d, c, whole(0, 1, 3), whole(9, 5))
	return d, c, w
}

// dead holds that all calls that write tell ErrDead, whatever they are handed, and write nothing; the others tell what is to be.
func dead(t *testing.T, name string, d *dev.Dev, c *core.Core, w *twin) {
	t.Helper()
	if !c.Dead() {
		t.Errorf("%s: it is not dead", name)
	}
	d.Fail(-1)
	stays(t, name, d, func() {
		for i, e := range []api.Errno{c.Commit(nil), c.Commit(wants(whole(1, 1))), c.Commit(wants(whole(0, 1, 3))), c.Commit(wants(whole(-1))), c.Commit(wants(core.Want{})), c.Move(nil), c.Move(list(0)), c.Move(list(99)), c.Move(list(1, 1)), c.Checkpoint(nil), c.Checkpoint(list(0, 1)), c.Checkpoint(list(-4))} {
			if e != api.ErrDead {
				t.Errorf("%s: call %d: %d", name, i, e)
			}
		}
		w.tells(t, name, c)
	})
}

// P21.2, P21.3, P21.4: a failure at each write and flush of a Commit, of a Move, of a Checkpoint's group: ErrDevice, it dies, and tells what it told ahead; at a Checkpoint's region the roots and the Old heads are the new ones, the region the old one.
func TestDies(t *testing.T) {
	for _, x := range []struct {
		name   string
		sum    int // sectors of its group
		region bool
		ask    func(c *core.Core) api.Errno
		twin   func(w *twin) api.Errno
	}{
		{"commit", 3, false, func(c *core.Core) api.Errno { return c.Commit(wants(whole(0, 9), free(3), whole(11, 7))) }, nil},
		{"a mark", 1, false, func(c *core.Core) api.Errno { return c.Commit(wants(free(3))) }, nil},
		{"move", 4, false, func(c *core.Core) api.Errno { return c.Move(list(0, 3, 9, 10)) }, nil},
		{"checkpoint", 3, true, func(c *core.Core) api.Errno { return c.Checkpoint(nil) }, func(w *twin) api.Errno { return w.checkpoint(nil) }},
		{"checkpoint of one", 3, true, func(c *core.Core) api.Errno { return c.Checkpoint(list(1)) }, func(w *twin) api.Errno { return w.checkpoint(list(1)) }},
	} {
		for k := range x.sum + 1 {
			d, c, w := grown(t)
			done := d.Done()
			d.Fail(k)
			if e := x.ask(c); e != api.ErrDevice || d.Done() != done+k || d.Loose() != k {
				t.Errorf("%s, cut at %d: %d, %d done, %d loose", x.name, k, e, d.Done()-done, d.Loose())
			}
			dead(t, x.name, d, c, w)
		}
		d, c, w := grown(t)
		d.Fail(x.sum + 1)
		if !x.region {
			if e := x.ask(c); e != api.OK || c.Dead() || d.Flush() != api.ErrDevice {
				t.Errorf("%s: the failure behind it: %d", x.name, e)
			}
			continue
		}
		for k := range 3 {
			d, c, w = grown(t)
			d.Fail(x.sum + 1 + k)
			if e := x.ask(c); e != api.ErrDevice || d.Loose() != k {
				t.Errorf("%s, cut at region's %d: %d, %d loose", x.name, k, e, d.Loose())
			}
			was, free := w.region, w.at.Free
			x.twin(w)
			was.Roots = w.region.Roots
			w.region, w.at.Free = was, free
			dead(t, x.name, d, c, w)
		}
	}
}

// P21.3: a Checkpoint of no group dies at its region.
func TestDiesAtTheRegionAlone(t *testing.T) {
	for k := range 3 {
		d, c, w := grown(t)
		w.checkpoints(t, "ahead", d, c)
		d.Fail(k)
		if e := c.Checkpoint(nil); e != api.ErrDevice || d.Loose() != k {
			t.Errorf("cut at %d: %d", k, e)
		}
		dead(t, "the region", d, c, w)
		d.Crash(nil)
		dead(t, "crashed", d, c, w)
	}
}

// P21.1, P21.4: no core.
func TestNoCore(t *testing.T) {
	var c *core.Core
	for i, e := range []api.Errno{c.Commit(nil), c.Commit(wants(whole(1, 1))), c.Commit(wants(whole(-1))), c.Move(nil), c.Move(list(0)), c.Checkpoint(nil), c.Checkpoint(list(0))} {
		if e != api.ErrArg {
			t.Errorf("call %d: %d", i, e)
		}
	}
	if s := c.State(); !same(s, recover.State{}) {
		t.Errorf("state: %+v", s)
	}
	for _, id := range list(-1, 0, 1, math.MaxInt, math.MinInt) {
		if x, e := c.Chain(id); e != api.ErrArg || len(x.Places) != 0 || x.Page != (api.Page{}) {
			t.Errorf("page %d: %+v, %d", id, x, e)
		}
	}
	if len(c.Places()) != 0 || len(c.Ages()) != 0 || c.Dead() {
		t.Error("places, ages, dead")
	}
}

// P21.4: pages that are none, at the edges and far off.
func TestChainOfNone(t *testing.T) {
	_, c, _ := grown(t)
	for _, id := range list(-1, 12, 13, 63, 64, 1<<32, math.MaxInt, math.MinInt) {
		if x, e := c.Chain(id); e != api.ErrArg || len(x.Places) != 0 || x.Page != (api.Page{}) {
			t.Errorf("page %d: %+v, %d", id, x, e)
		}
	}
	for _, id := range list(1, 11) {
		if x, e := c.Chain(id); e != api.ErrNone || len(x.Places) != 0 || x.Page != (api.Page{}) {
			t.Errorf("page %d: %+v, %d", id, x, e)
		}
	}
}

// P21.4: a device whose bytes are turned under a core: a page that is not right is told so, and is not written; no call panics.
func TestTurnedUnderneath(t *testing.T) {
	d, c, w := grown(t)
	head := w.heads()[0]
	d.Write(head, sample(1))
	if x, e := c.Chain(0); e != api.ErrCorrupt || len(x.Places) != 0 || len(c.Places()) != 0 {
		t.Errorf("turned: %+v, %d, %v", x, e, c.Places())
	}
	stays(t, "turned", d, func() {
		if e, f := c.Commit(wants(whole(0, 4), whole(1, 3))), c.Move(list(0, 9)); e != api.ErrCorrupt || f != api.ErrCorrupt || c.Dead() {
			t.Errorf("turned: %d, %d", e, f)
		}
	})
	if e := c.Commit(wants(whole(9, 4))); e != api.OK {
		t.Errorf("another page: %d", e)
	}
	c.Checkpoint(nil)
	if e := c.Commit(wants(free(0))); e != api.OK {
		t.Errorf("freed: %d", e)
	}
}

// fill sets all of a list's room, spare room too, to one thing.
func fill[E any](l []E, x E) {
	for i := range l[:cap(l)] {
		l[:cap(l)][i] = x
	}
}

// Rule 2: what is handed in stays as it was, its spare room too, and is not kept.
func TestNothingChanged(t *testing.T) {
	for n := range 5 {
		d, c, w := grown(t)
		all := wants(whole(0, 1, 4), alloc(1), free(3), whole(9, 77, 31), whole(10, 8), free(44), whole(-3, 5))
		room := slices.Clone(all)
		if e := c.Commit(room[:n]); e != w.commit(all[:n]) || !slices.Equal(room, all) {
			t.Errorf("%d wants: %d, %v", n, e, room)
		}
		fill(room, whole(5, 5))
		w.holds(t, "commit", d, c)
		pages := append(list(0, 1, 3, 9, 10)[:n:n], 44, -7, 2)
		if e := c.Move(pages[:n]); e != w.move(pages[:n]) || !slices.Equal(pages[n:], list(44, -7, 2)) || !slices.Equal(pages[:n], list(0, 1, 3, 9, 10)[:n]) {
			t.Errorf("%d pages: %d, %v", n, e, pages)
		}
		fill(pages, 5)
		w.holds(t, "move", d, c)
		maps := append(list(0, 1)[:n%3:n%3], 44, -7, 2)
		if e := c.Checkpoint(maps[:n%3]); e != w.checkpoint(maps[:n%3]) || !slices.Equal(maps[n%3:], list(44, -7, 2)) || !slices.Equal(maps[:n%3], list(0, 1)[:n%3]) {
			t.Errorf("%d mapping pages: %d, %v", n, e, maps)
		}
		fill(maps, 5)
		w.holds(t, "checkpoint", d, c)
		w.commits(t, "goes on", d, c, whole(0, 3, 3, 3))
	}
}

// Rule 2: what is told shares no memory, spare room too, with the core, with another answer, or within one.
func TestNewMemory(t *testing.T) {
	for n := range 4 {
		d, c, w := grown(t)
		switch n {
		case 1:
			w.checkpoints(t, "ahead", d, c)
		case 2:
			c, w = opened(t, "ahead", d)
		case 3:
			w.moves(t, "ahead", d, c, 0, 9)
			w.commits(t, "ahead", d, c, free(10))
		}
		for k := range 3 {
			s := c.State()
			lists := [][]int{s.Heads, s.Old, s.At.Free}
			fill(lists[k], -9)
			for m, x := range [][]int{w.heads(), w.old, w.at.Free} {
				if m != k && !slices.Equal(lists[m], x) {
					t.Errorf("list %d is shared with list %d: %v, not %v", k, m, lists[m], x)
				}
			}
			w.holds(t, "spoilt", d, c)
		}
		a, p, x := c.Ages(), c.Places(), c.State()
		y, _ := c.Chain(0)
		fill(c.Ages(), 7)
		fill(c.Places(), 7)
		fill(y.Places, 7)
		w.holds(t, "spoilt", d, c)
		if !slices.Equal(a, w.ages) || !slices.Equal(p, w.places()) || !same(x, w.state()) {
			t.Errorf("answers are shared: %v, %v, %+v", a, p, x)
		}
		heads, old := slices.Clone(x.Heads), slices.Clone(x.Old)
		w.commits(t, "goes on", d, c, whole(0, 9, 9), whole(4, 1))
		w.checkpoints(t, "goes on", d, c)
		if !slices.Equal(heads, x.Heads) || !slices.Equal(old, x.Old) || !slices.Equal(a[1:], w.ages[1:]) {
			t.Errorf("an answer is changed: %+v", x)
		}
	}
}

// Rule 4: two cores, turn by turn, each with its own device, tell what each alone does; so does one that nobody asked anything between.
func TestAnswersStay(t *testing.T) {
	d, c, w := grown(t)
	e, o, v := begun(t)
	for n := range byte(5) {
		w.commits(t, "one", d, c, whole(0, n, 7), whole(9, 1, n))
		v.commits(t, "the other", e, o, whole(0, 2, n), alloc(11))
		core.Open(nil)
		core.Format(nil, geom())
		v.checkpoints(t, "the other", e, o, 1)
		w.moves(t, "one", d, c, 0, 10)
		w.holds(t, "one", d, c)
	}
	quiet, q, _ := grown(t)
	for n := range byte(5) {
		q.Commit(wants(whole(0, n, 7), whole(9, 1, n)))
		q.Move(list(0, 10))
	}
	w.holds(t, "quiet", d, c)
	if !slices.Equal(sectors(quiet), w.disk) || !same(q.State(), w.state()) {
		t.Errorf("quiet: %+v, not %+v", q.State(), w.state())
	}
}

// P21.1 to P21.4: long plays of Commit, Move, Checkpoint and Open, held against the twin call by call; what has no room is told so.
func TestPlays(t *testing.T) {
	told := map[api.Errno]int{}
	for start := range 40 {
		g := shapes()[list(0, 1, 2, 4, 5, 6)[start%6]]
		next := pick(uint32(start))
		d := device(t, total(g)+start%2)
		c, w := formatted(t, d, g)
		tight := start%4 == 0 // it goes on till there is no room
		for range 120 {
			var e, want api.Errno
			switch n := next(20); {
			case n < 13 || tight && !seldom(next, 40):
				l := anyWants(w, next)
				e, want = c.Commit(l), w.commit(l)
			case n < 15:
				l := rising(g.Pages, next)
				e, want = c.Move(l), w.move(l)
			case n < 18:
				l := rising(count(g), next)
				e, want = c.Checkpoint(l), w.checkpoint(l)
			default:
				v, _ := twinOf(d)
				if v.open() != api.OK {
					refused(t, "play", d, api.ErrCorrupt)
					told[api.ErrCorrupt]++
					continue
				}
				c, w = opened(t, "play", d)
			}
			told[want]++
			w.does(t, "play", d, c, e, want)
			if t.Failed() {
				return
			}
		}
	}
	if told[api.OK] < 1000 || told[api.ErrSpace] < 10 {
		t.Errorf("told: %v", told)
	}
}

// rising are some of the first n numbers.
func rising(n int, next func(n int) int) []int {
	var l []int
	for id := next(n + 1); id < n; id += 1 + next(5) {
		l = append(l, id)
	}
	return l
}

// keeps are the ways in which n loose writes may be kept: all, if they are few.
func keeps(n int, next func(n int) int) [][]byte {
	var l [][]byte
	for k := range 1 << min(n, 6) {
		keep := make([]byte, n)
		for i := range keep {
			keep[i] = byte(next(100) * 2)
			if i < 6 && k>>i&1 == 1 || i >= 6 && seldom(next, 2) {
				keep[i]++
			}
		}
		l = append(l, keep)
	}
	return l
}

// cuts plays a call on cores as they are built, cut at each write and flush, with any of the loose writes kept, then opened: the pages are as ahead of it, or, if it may turn them, as behind it; all of it was done, if it told OK.
func cuts(t *testing.T, name string, built func() (*dev.Dev, *core.Core), ask func(c *core.Core) api.Errno, turns bool) {
	t.Helper()
	next := pick(9)
	d, c := built()
	ahead := pagesOf(c)
	if e := ask(c); e != api.OK {
		t.Fatalf("%s: %d", name, e)
	}
	all := pagesOf(c)
	if turns == maps.Equal(ahead, all) {
		t.Errorf("%s: ahead %v, behind %v", name, ahead, all)
	}
	met := map[bool]int{}
	for k, more := 0, true; more; k++ {
		d, c = built()
		d.Fail(k)
		more = ask(c) == api.ErrDevice
		for _, keep := range keeps(d.Loose(), next) {
			d, c = built()
			d.Fail(k)
			e := ask(c)
			d.Crash(keep)
			o, w := opened(t, name, d)
			now := pagesOf(o)
			if !maps.Equal(now, all) && (e == api.OK || !maps.Equal(now, ahead)) {
				t.Errorf("%s, cut at %d, kept %v, told %d: %v", name, k, keep, e, now)
			}
			met[maps.Equal(now, all)]++
			w.commits(t, name, d, o, whole(0, 3, 3, 3), whole(9, 2))
			w.checkpoints(t, name, d, o)
			again, _ := opened(t, name, d)
			now[0], now[9] = api.Page{3, 3, 3}, api.Page{2}
			if !maps.Equal(pagesOf(again), now) {
				t.Errorf("%s, cut at %d, kept %v, gone on: %v, not %v", name, k, keep, pagesOf(again), now)
			}
		}
	}
	if met[true] < 1 || turns && met[false] < 2 {
		t.Errorf("%s: met %v", name, met)
	}
}

// P21.5: a Commit that is cut: the pages are as ahead of it, or as behind it.
func TestCutCommit(t *testing.T) {
	base := func() (*dev.Dev, *core.Core) { d, c, _ := grown(t); return d, c }
	cuts(t, "pages", base, func(c *core.Core) api.Errno {
		return c.Commit(wants(whole(0, 1, 7), free(3), whole(9, 31, 31), alloc(10), whole(11, 9)))
	}, true)
	cuts(t, "marks", base, func(c *core.Core) api.Errno { return c.Commit(wants(alloc(0), free(3), free(9), alloc(10))) }, true)
	cuts(t, "one page", base, func(c *core.Core) api.Errno { return c.Commit(wants(whole(0, 1, 7))) }, true)
	turned := func() (*dev.Dev, *core.Core) { // the next group goes into another segment
		d, c := base()
		for c.State().At.Off < 23 {
			c.Commit(wants(whole(0, byte(c.State().At.Off), 4)))
		}
		return d, c
	}
	cuts(t, "another segment", turned, func(c *core.Core) api.Errno { return c.Commit(wants(whole(0, 99), whole(1, 98), free(3), free(9))) }, true)
	again := func() (*dev.Dev, *core.Core) { // a segment that was used, and is free again
		d, c := base()
		for n := range byte(30) {
			c.Commit(wants(whole(0, n, 31, n), whole(9, n, 7), whole(10, 3, n)))
			c.Checkpoint(nil)
		}
		for c.State().At.Off < 23 {
			c.Commit(wants(free(11)))
		}
		return d, c
	}
	cuts(t, "a segment used again", again, func(c *core.Core) api.Errno {
		return c.Commit(wants(whole(0, 99), whole(1, 98), free(3), whole(9, 0, 0, 0, 3)))
	}, true)
}

// P21.5: a Move, a Checkpoint that is cut: the pages are as they were.
func TestCutMoveAndCheckpoint(t *testing.T) {
	base := func() (*dev.Dev, *core.Core) { d, c, _ := grown(t); return d, c }
	cuts(t, "move", base, func(c *core.Core) api.Errno { return c.Move(list(0, 3, 9, 10)) }, false)
	cuts(t, "move of one", base, func(c *core.Core) api.Errno { return c.Move(list(1, 9)) }, false)
	cuts(t, "checkpoint", base, func(c *core.Core) api.Errno { return c.Checkpoint(nil) }, false)
	cuts(t, "checkpoint of one", base, func(c *core.Core) api.Errno { return c.Checkpoint(list(1)) }, false)
	cuts(t, "a cleaner's round", base, func(c *core.Core) api.Errno {
		if e := c.Move(list(0, 9, 10)); e != api.OK {
			return e
		}
		if e := c.Checkpoint(list(0, 1)); e != api.OK {
			return e
		}
		return c.Move(list(0, 9, 10))
	}, false)
	settled := func() (*dev.Dev, *core.Core) {
		d, c := base()
		c.Checkpoint(nil)
		return d, c
	}
	cuts(t, "no group", settled, func(c *core.Core) api.Errno { return c.Checkpoint(nil) }, false)
	cuts(t, "none turned", settled, func(c *core.Core) api.Errno { return c.Checkpoint(list(0, 1)) }, false)
	full := func() (*dev.Dev, *core.Core) { // one that goes through the segments, with each segment's last sectors
		d, c := base()
		for c.State().At.Off < 23 {
			c.Commit(wants(whole(0, byte(c.State().At.Off), 4)))
		}
		return d, c
	}
	cuts(t, "checkpoint into another segment", full, func(c *core.Core) api.Errno { return c.Checkpoint(list(0, 1)) }, false)
	cuts(t, "move into another segment", full, func(c *core.Core) api.Errno { return c.Move(list(0, 9, 10)) }, false)
}

// P21.5: an Open that is cut, and the Open behind it, too, each at each write and flush, with any of the loose writes kept: the pages are as they were.
func TestCutOpen(t *testing.T) {
	next := pick(9)
	d, c, w := grown(t)
	w.commits(t, "ahead", d, c, whole(4, 5), free(10))
	pages, disk := pagesOf(c), w.disk
	opens := 0
	var cut func(l []api.Sector, depth int)
	cut = func(l []api.Sector, depth int) {
		for k := 0; ; k++ {
			d := deviceOf(l)
			d.Fail(k)
			if _, e := core.Open(d); e == api.OK {
				break
			}
			for _, keep := range keeps(d.Loose(), next) {
				d := deviceOf(l)
				d.Fail(k)
				core.Open(d)
				d.Crash(keep)
				if depth > 0 {
					cut(sectors(d), depth-1)
				}
				o, _ := opened(t, "cut", d)
				if opens++; !maps.Equal(pagesOf(o), pages) {
					t.Fatalf("cut at %d, kept %v: %v, not %v", k, keep, pagesOf(o), pages)
				}
			}
		}
	}
	cut(disk, 1)
	if opens < 400 {
		t.Errorf("%d times", opens)
	}
}

// P21.5: long plays that are cut anywhere, in opening, too, and opened again: the pages are as ahead of the call that was cut, or, of a Commit, as behind it.
func TestCutPlays(t *testing.T) {
	met := map[string]int{}
	for start := range 40 {
		g := shapes()[list(0, 1, 2, 4, 5, 6)[start%6]]
		next := pick(uint32(100 + start))
		d := device(t, total(g))
		c, w := formatted(t, d, g)
		for range 40 {
			ahead := pagesOf(c)
			l, pages, maps0 := anyWants(w, next), rising(g.Pages, next), rising(count(g), next)
			if len(w.at.Free) < 3 {
				c.Checkpoint(nil)
			}
			if len(c.State().At.Free) < 3 {
				break // a cleaner would make room
			}
			behind := maps.Clone(ahead)
			d.Fail(next(8) - 1)
			var e api.Errno
			kind := []string{"commit", "commit", "commit", "move", "checkpoint"}[next(5)]
			switch kind {
			case "commit":
				for _, x := range l {
					behind[x.Id] = x.Now
					switch x.Kind {
					case api.Alloc:
						behind[x.Id] = api.Page{}
					case api.Free:
						delete(behind, x.Id)
					}
				}
				e = c.Commit(l)
			case "move":
				e = c.Move(pages)
			default:
				e = c.Checkpoint(maps0)
			}
			for tries := 0; ; tries++ {
				keep := make([]byte, 80)
				for i := range keep {
					keep[i] = byte(max(next(3), next(2)))
				}
				d.Crash(keep)
				d.Fail(next(9))
				if _, f := core.Open(d); f == api.OK || tries > 5 {
					break
				}
				met["open"]++
			}
			d.Crash(nil)
			c, w = opened(t, "cut", d)
			now := pagesOf(c)
			switch {
			case maps.Equal(now, behind) && e == api.OK:
				met[kind+" done"]++
			case maps.Equal(now, behind):
				met[kind+" kept"]++
			case maps.Equal(now, ahead) && e == api.ErrDevice:
				met[kind+" lost"]++
			default:
				t.Fatalf("%s that told %d: %v, not %v or %v", kind, e, now, ahead, behind)
			}
		}
	}
	for _, name := range []string{"open", "commit done", "commit kept", "commit lost", "move done", "move kept", "checkpoint done", "checkpoint kept"} {
		if met[name] < 20 {
			t.Errorf("met: %v", met)
		}
	}
}

// P21.1 to P21.4: devices of any bytes: each call ends, and what is opened can be asked and written.
func TestAnyBytes(t *testing.T) {
	next := pick(12)
	told := map[api.Errno]int{}
	for round := range 300 {
		d := device(t, total(geom())+next(3))
		anchor.Write(d, api.Region{Gen: uint32(next(3)), Geom: geom(), Seg: next(9), Off: next(26), Seq: uint32(next(9)), Roots: [8]int{next(2) * (4 + next(225)), next(2) * (4 + next(225))}})
		for i := 4; i < d.Len(); i++ {
			s, _ := block.Encode([]api.Block{image(next(12), byte(next(9))), mapping(next(2), next(2)), mapping(next(2), 4+next(225), 1), delta(next(12), 3, 4+next(225))}[next(4)], uint32(next(9)))
			if seldom(next, 3) {
				s[next(64)] = byte(next(256))
			}
			d.Write(i, s)
		}
		d.Flush()
		w, e := twinOf(d)
		if e == api.OK {
			e = w.open()
		}
		told[e]++
		if e != api.OK {
			refused(t, "any bytes", d, e)
			continue
		}
		c, w := opened(t, "any bytes", d)
		w.commits(t, "any bytes", d, c, anyWants(w, next)...)
		w.moves(t, "any bytes", d, c, rising(12, next)...)
		w.checkpoints(t, "any bytes", d, c, rising(2, next)...)
		if round%9 == 0 && len(w.pages) <= most(geom()) {
			opened(t, "any bytes again", d)
		}
	}
	if told[api.OK] < 20 || told[api.ErrCorrupt] < 20 {
		t.Errorf("told: %v", told)
	}
}
