package recover_test

import (
	"bytes"
	"maps"
	"math"
	"slices"
	"testing"

	"silt/anchor"
	"silt/api"
	"silt/block"
	"silt/dev"
	"silt/group"
	"silt/journal"
	"silt/recover"
	"silt/scan"
	"silt/summary"
)

func list(l ...int) []int { return l }

// geom is the geometry of most tests: 12 pages, of which 6 may be allocated, in two mapping pages.
func geom() api.Geom { return api.Geom{Pages: 12, Segs: 9, SegLen: 25, Frames: 4} }

// shapes are geometries that may be, at the edges and between; in one of them no page may be allocated.
func shapes() []api.Geom {
	return []api.Geom{
		geom(), {Pages: 1, Segs: 6, SegLen: 24, Frames: 2}, {Pages: 64, Segs: 16, SegLen: 32, Frames: 16}, {Pages: 64, Segs: 6, SegLen: 24, Frames: 3},
		{Pages: 16, Segs: 8, SegLen: 24, Frames: 4}, {Pages: 40, Segs: 7, SegLen: 31, Frames: 3}, {Pages: 9, Segs: 16, SegLen: 25, Frames: 5},
	}
}

// total, place, count and most are counted here, apart from plan: all sectors, sector off of segment seg, how many mapping pages, how many pages may be allocated.
func total(g api.Geom) int { return 4 + g.Segs*g.SegLen }

func place(g api.Geom, seg, off int) int { return 4 + seg*g.SegLen + off }

func count(g api.Geom) int { return (g.Pages + 7) / 8 }

func most(g api.Geom) int { return min(g.Pages, (4*(g.Segs-4)-count(g))/3) }

func image(id int, n byte) api.Block {
	return api.Block{Kind: api.Image, Id: id, Page: api.Page{n, n, 31: n}}
}

func delta(id int, n byte, prev int) api.Block {
	return api.Block{Kind: api.Delta, Id: id, Off: 1, Bytes: []byte{n}, Prev: prev}
}

func mapping(id int, heads ...int) api.Block {
	b := api.Block{Kind: api.Map, Id: id}
	copy(b.Heads[:], heads)
	return b
}

func item(b api.Block) api.Item {
	return api.Item{Mark: api.Mark{Kind: b.Kind, Id: b.Id}, Block: b}
}

func alloc(id int) api.Item { return api.Item{Mark: api.Mark{Kind: api.Alloc, Id: id}} }

func free(id int) api.Item { return api.Item{Mark: api.Mark{Kind: api.Free, Id: id}} }

func items(l ...api.Item) []api.Item { return l }

// sample is a sector that is none's.
func sample(i int) (s api.Sector) {
	for k := range s {
		s[k] = byte(200 + i + 3*k)
	}
	s[0] = 0
	return s
}

// device has n sectors that are none's, none of them loose.
func device(t *testing.T, n int) *dev.Dev {
	t.Helper()
	d, e := dev.New(n)
	if e != api.OK {
		t.Fatalf("device of %d sectors: %d", n, e)
	}
	for i := range n {
		d.Write(i, sample(i))
	}
	d.Flush()
	return d
}

// sectors are all of a device, as they are read.
func sectors(t *testing.T, d *dev.Dev) []api.Sector {
	t.Helper()
	l := make([]api.Sector, d.Len())
	for i := range l {
		s, e := d.Read(i)
		if e != api.OK {
			t.Fatalf("read of sector %d: %d", i, e)
		}
		l[i] = s
	}
	return l
}

// lay sets the sector of a block.
func lay(t *testing.T, d *dev.Dev, at int, b api.Block) {
	t.Helper()
	s, e := block.Encode(b, 3)
	if e != api.OK {
		t.Fatalf("%+v is no block", b)
	}
	if e := d.Write(at, s); e != api.OK {
		t.Fatalf("sector %d: %d", at, e)
	}
}

// stays holds that a device is as it was, whatever is asked.
func stays(t *testing.T, name string, d *dev.Dev, ask func()) {
	t.Helper()
	was, loose, done := sectors(t, d), d.Loose(), d.Done()
	ask()
	if !slices.Equal(sectors(t, d), was) || d.Loose() != loose || d.Done() != done {
		t.Errorf("%s: the device is changed", name)
	}
}

// chain is what Chain tells; nothing is written, and with an error nothing else is told.
func chain(t *testing.T, name string, d *dev.Dev, g api.Geom, id, head int) (c recover.Chained, e api.Errno) {
	t.Helper()
	loose, done := d.Loose(), d.Done()
	c, e = recover.Chain(d, g, id, head)
	if d.Loose() != loose || d.Done() != done {
		t.Errorf("%s: page %d, head %d: the device is changed", name, id, head)
	}
	if e != api.OK && (len(c.Places) != 0 || c.Page != api.Page{}) {
		t.Errorf("%s: page %d, head %d: %d, with %+v", name, id, head, e, c)
	}
	return c, e
}

// hasChain holds what Chain tells against what is wanted.
func hasChain(t *testing.T, name string, d *dev.Dev, g api.Geom, id, head int, want []int, page api.Page) {
	t.Helper()
	if c, e := chain(t, name, d, g, id, head); e != api.OK || !slices.Equal(c.Places, want) || c.Page != page {
		t.Errorf("%s: page %d, head %d: %+v, %d, not %v, %v", name, id, head, c, e, want, page)
	}
}

func noChain(t *testing.T, name string, d *dev.Dev, g api.Geom, id, head int, want api.Errno) {
	t.Helper()
	if c, e := chain(t, name, d, g, id, head); e != want {
		t.Errorf("%s: page %d, head %d: %+v, %d, not %d", name, id, head, c, e, want)
	}
}

func isZero(s recover.State) bool {
	return s.Region == api.Region{} && len(s.Heads) == 0 && len(s.Old) == 0 && sameAt(s.At, journal.At{})
}

func sameAt(a, b journal.At) bool {
	return a.Seg == b.Seg && a.Off == b.Off && a.Seq == b.Seq && slices.Equal(a.Free, b.Free)
}

func same(a, b recover.State) bool {
	return a.Region == b.Region && slices.Equal(a.Heads, b.Heads) && slices.Equal(a.Old, b.Old) && sameAt(a.At, b.At)
}

// load is what Load tells; the device is as it was, and with an error nothing else is told.
func load(t *testing.T, name string, d *dev.Dev) (s recover.State, e api.Errno) {
	t.Helper()
	stays(t, name, d, func() { s, e = recover.Load(d) })
	if e != api.OK && !isZero(s) {
		t.Errorf("%s: %d, with %+v", name, e, s)
	}
	return s, e
}

func loads(t *testing.T, name string, d *dev.Dev, want recover.State) {
	t.Helper()
	if s, e := load(t, name, d); e != api.OK || !same(s, want) {
		t.Errorf("%s: %+v, %d, not %+v", name, s, e, want)
	}
}

func corrupt(t *testing.T, name string, d *dev.Dev) {
	t.Helper()
	if s, e := load(t, name, d); e != api.ErrCorrupt {
		t.Errorf("%s: %+v, %d", name, s, e)
	}
}

// second is what a page's chain comes to, another way: its definition word by word; false, if it is not right, left being how many blocks it may have.
func second(d *dev.Dev, g api.Geom, id, head, left int) ([]int, api.Page, bool) {
	if head == api.Zeros {
		return nil, api.Page{}, true
	}
	if left == 0 || head < 4 || head >= total(g) {
		return nil, api.Page{}, false
	}
	s, _ := d.Read(head)
	b, _, e := block.Decode(s)
	if e != api.OK || b.Id != id || b.Kind == api.Map {
		return nil, api.Page{}, false
	}
	if b.Kind == api.Image {
		return list(head), b.Page, true
	}
	rest, page, ok := second(d, g, id, b.Prev, left-1)
	if !ok {
		return nil, api.Page{}, false
	}
	copy(page[b.Off:], b.Bytes)
	return append(list(head), rest...), page, true
}

// secondRight tells whether a state is right, another way, and how many live places each segment has.
func secondRight(d *dev.Dev, s recover.State) (live map[int]int, ok bool) {
	g := s.Region.Geom
	owner, pages := map[int]int{}, 0
	live = map[int]int{}
	put := func(who, at int) bool {
		if _, twice := owner[at]; twice {
			return false
		}
		owner[at] = who
		seg, off := (at-4)/g.SegLen, (at-4)%g.SegLen
		live[seg]++
		return seg != s.At.Seg || off < s.At.Off
	}
	for id, head := range s.Heads {
		if head == api.NoPage {
			continue
		}
		pages++
		l, _, right := second(d, g, id, head, 3)
		for _, at := range l {
			right = right && put(id, at)
		}
		if !right {
			return nil, false
		}
	}
	for _, root := range s.Region.Roots {
		if root != 0 && !put(-1, root) {
			return nil, false
		}
	}
	return live, pages <= most(g)
}

// secondLoad is what a device says, another way; false, if it is corrupt.
func secondLoad(d *dev.Dev) (s recover.State, ok bool) {
	r, e := anchor.Newest(d)
	if e != api.OK {
		return recover.State{}, false
	}
	s = recover.State{Region: r, Heads: make([]int, r.Pages), Old: make([]int, r.Pages), At: journal.At{Seg: r.Seg, Off: r.Off, Seq: r.Seq}}
	for id, root := range r.Roots {
		x, _ := d.Read(root)
		b, _, e := block.Decode(x)
		if root != 0 && (e != api.OK || b.Kind != api.Map || b.Id != id || !secondMap(&s, b)) {
			return recover.State{}, false
		}
	}
	copy(s.Heads, s.Old)
	live, ok := secondRight(d, s)
	if !ok {
		return recover.State{}, false
	}
	for seg := range r.Segs {
		if live[seg] == 0 && seg != r.Seg {
			s.At.Free = append(s.At.Free, seg)
		}
	}
	groups, end, _ := scan.Read(d, r.Geom, s.At)
	for _, x := range groups {
		for i, y := range x.Items {
			if !secondItem(&s, y, x.Places[i]) {
				return recover.State{}, false
			}
		}
	}
	s.At = end
	if _, ok := secondRight(d, s); !ok {
		return recover.State{}, false
	}
	return s, true
}

// secondMap lays a mapping page's heads over the Old ones; false, if the geometry has not all of them.
func secondMap(s *recover.State, b api.Block) bool {
	for i, head := range b.Heads {
		if page := 8*b.Id + i; page < len(s.Old) {
			s.Old[page] = head
		} else if head != api.NoPage {
			return false
		}
	}
	return true
}

func secondItem(s *recover.State, x api.Item, at int) bool {
	if x.Kind == api.Map {
		if x.Id >= count(s.Region.Geom) {
			return false
		}
		s.Region.Roots[x.Id] = at
		return secondMap(s, x.Block)
	}
	if x.Id >= len(s.Heads) || x.Kind == api.Delta && s.Heads[x.Id] != x.Block.Prev {
		return false
	}
	s.Heads[x.Id] = map[int]int{api.Image: at, api.Delta: at, api.Alloc: api.Zeros, api.Free: api.NoPage}[x.Kind]
	return true
}

// agrees holds what Load tells against the second way, and tells whether it is a store.
func agrees(t *testing.T, name string, d *dev.Dev) bool {
	t.Helper()
	want, ok := secondLoad(d)
	if ok {
		loads(t, name, d, want)
	} else {
		corrupt(t, name, d)
	}
	return ok
}

// agreesAs holds what Load tells against the second way, and that it is a store, or is none.
func agreesAs(t *testing.T, name string, d *dev.Dev, want bool) {
	t.Helper()
	if agrees(t, name, d) != want {
		t.Errorf("%s: not %v", name, want)
	}
}

// world is a device with a region: page 0 is an image, 1 a delta over one, 2 zeros, 9 a delta over zeros, 10 a chain of three; one page more may be allocated.
type world struct {
	d     *dev.Dev
	r     api.Region
	heads []int
}

// Where the world's blocks stand; the region's segment is 1, where all behind sector 5 may be written.
func image0() int { return place(geom(), 0, 6) }
func image1() int { return place(geom(), 0, 7) }
func map0() int   { return place(geom(), 0, 8) }
func map1() int   { return place(geom(), 0, 9) }
func delta1() int { return place(geom(), 1, 2) }
func delta9() int { return place(geom(), 1, 3) }
func last10() int { return place(geom(), 3, 0) }
func next10() int { return place(geom(), 3, 24) }
func head10() int { return place(geom(), 8, 24) }

func begun(t *testing.T) world {
	t.Helper()
	w := world{d: device(t, total(geom()))}
	lay(t, w.d, image0(), image(0, 5))
	lay(t, w.d, image1(), image(1, 6))
	lay(t, w.d, delta1(), delta(1, 7, image1()))
	lay(t, w.d, delta9(), delta(9, 8, api.Zeros))
	lay(t, w.d, last10(), image(10, 1))
	lay(t, w.d, next10(), delta(10, 2, last10()))
	lay(t, w.d, head10(), delta(10, 3, next10()))
	w.heads = list(image0(), delta1(), 1, 0, 0, 0, 0, 0, 0, delta9(), head10(), 0)
	w.mapped(t)
	w.r = api.Region{Gen: 1, Geom: geom(), Seg: 1, Off: 6, Seq: 20, Roots: [8]int{map0(), map1()}}
	w.anchor(t)
	return w
}

// mapped lays the mapping pages of the world's heads.
func (w *world) mapped(t *testing.T) {
	t.Helper()
	lay(t, w.d, map0(), mapping(0, w.heads[:8]...))
	lay(t, w.d, map1(), mapping(1, w.heads[8:]...))
}

// anchor writes the world's region.
func (w *world) anchor(t *testing.T) {
	t.Helper()
	if e := anchor.Write(w.d, w.r); e != api.OK {
		t.Fatalf("region %+v: %d", w.r, e)
	}
}

// state is what the world says, without groups behind its region.
func (w *world) state(free ...int) recover.State {
	at := journal.At{Seg: w.r.Seg, Off: w.r.Off, Seq: w.r.Seq, Free: free}
	return recover.State{Region: w.r, Heads: slices.Clone(w.heads), Old: slices.Clone(w.heads), At: at}
}

// journal is one behind the world's region.
func (w *world) journal(t *testing.T, free ...int) *journal.Journal {
	t.Helper()
	j, e := journal.New(w.d, geom(), journal.At{Seg: w.r.Seg, Off: w.r.Off, Seq: w.r.Seq, Free: free})
	if e != api.OK {
		t.Fatalf("journal: %d", e)
	}
	return j
}

func put(t *testing.T, j *journal.Journal, l []api.Item) []int {
	t.Helper()
	places, e := j.Put(l)
	if e != api.OK {
		t.Fatalf("Put of %+v: %d", l, e)
	}
	return places
}

// far are numbers that are neither a page's nor a place's, though their lowest bytes may be.
func far() []int {
	return list(math.MinInt, math.MinInt32, -1<<32, -256, -1, 1<<16, 1<<16+31, 1<<32, 1<<32+1, 1<<32+31, math.MaxInt32, math.MaxInt)
}

// P20.1: no device, one with fewer sectors than the geometry's; with just as many, and with more, there is the chain.
func TestChainOnDevices(t *testing.T) {
	for _, g := range shapes() {
		at := place(g, g.Segs-1, 3)
		for _, head := range list(api.NoPage, api.Zeros, 5, at, -1, math.MaxInt) {
			noChain(t, "no device", nil, g, 0, head, api.ErrArg)
			noChain(t, "no device", &dev.Dev{}, g, 0, head, api.ErrArg)
			for _, n := range list(1, 6, total(g)-g.SegLen, total(g)-4, total(g)-1) {
				d := device(t, n)
				lay(t, d, n-1, image(0, 5))
				noChain(t, "too few sectors", d, g, 0, head, api.ErrArg)
				noChain(t, "too few sectors", d, g, 0, n-1, api.ErrArg)
			}
		}
		for _, n := range list(total(g), total(g)+1, 1024) {
			d := device(t, n)
			lay(t, d, at, image(0, 5))
			lay(t, d, n-1, image(0, 6))
			hasChain(t, "sectors", d, g, 0, at, list(at), image(0, 5).Page)
			noChain(t, "no page", d, g, 0, api.NoPage, api.ErrNone)
			if n > total(g) {
				noChain(t, "behind the segments", d, g, 0, n-1, api.ErrCorrupt)
			}
		}
	}
}

// P20.1: geometries that may not be, on the greatest device, whatever the page and its head.
func TestChainOfNoGeometry(t *testing.T) {
	d := device(t, 1024)
	lay(t, d, 10, image(0, 5))
	wrong := []api.Geom{{}, {Pages: math.MinInt, Segs: math.MaxInt, SegLen: math.MaxInt, Frames: math.MinInt}}
	for _, n := range append(far(), 0, 65) {
		wrong = append(wrong, api.Geom{Pages: n, Segs: 6, SegLen: 24, Frames: 4})
	}
	for _, n := range append(far(), 0, 5, 17) {
		wrong = append(wrong, api.Geom{Pages: 12, Segs: n, SegLen: 24, Frames: 4})
	}
	for _, n := range append(far(), 0, 23, 33) {
		wrong = append(wrong, api.Geom{Pages: 12, Segs: 6, SegLen: n, Frames: 4})
	}
	for _, n := range append(far(), 0, 1, 17) {
		wrong = append(wrong, api.Geom{Pages: 12, Segs: 6, SegLen: 24, Frames: n})
	}
	for _, g := range wrong {
		for _, head := range list(api.NoPage, api.Zeros, 10, -1) {
			noChain(t, "no geometry", d, g, 0, head, api.ErrArg)
		}
	}
}

// P20.1: ids below the first page and behind the last one, whatever the head; the last page has its chain.
func TestChainOfNoPage(t *testing.T) {
	for _, g := range shapes() {
		d := device(t, total(g))
		last := g.Pages - 1
		lay(t, d, 10, image(last, 5))
		lay(t, d, 11, image(min(g.Pages, 63), 6))
		for _, id := range append(far(), -2, g.Pages, g.Pages+1, 64, 1024) {
			for _, head := range list(api.NoPage, api.Zeros, 10, 11, -1) {
				noChain(t, "no such page", d, g, id, head, api.ErrArg)
			}
		}
		hasChain(t, "the last page", d, g, last, 10, list(10), image(0, 5).Page)
		hasChain(t, "the last page", d, g, last, api.Zeros, nil, api.Page{})
		noChain(t, "the last page", d, g, last, api.NoPage, api.ErrNone)
	}
}

// P20.1: heads that are no block's place of that page: in no segment, or a sector that is none's, a summary's, a region's, another page's block, a mapping page's.
func TestChainOfNoBlock(t *testing.T) {
	for _, g := range shapes() {
		d := device(t, 1024)
		for _, at := range list(2, 3, total(g), total(g)+1, 1023) {
			lay(t, d, at, image(0, 5)) // would be right there
		}
		noHeads := append(far(), 2, 3, -4, total(g), total(g)+1, 1023, 1024)
		x, _ := summary.Encode(summary.Summary{Seq: 3, Marks: []api.Mark{{Kind: api.Image, Id: 0}}})
		d.Write(place(g, 0, 1), x)
		lay(t, d, place(g, 0, 2), mapping(0))
		lay(t, d, place(g, 0, 3), image(1, 5))
		lay(t, d, place(g, 0, 4), image(63, 5))
		lay(t, d, place(g, 0, 5), delta(1, 5, api.Zeros))
		d.Write(place(g, 0, 6), api.Sector{})
		d.Write(place(g, 0, 7), api.Sector{1, 0, 63: 1}) // an image's, but for the last byte
		d.Write(place(g, 0, 8), api.Sector{2, 0})        // a delta's, but without bytes
		for off := range 9 {
			noHeads = append(noHeads, place(g, 0, off))
		}
		for _, head := range noHeads {
			noChain(t, "no block", d, g, 0, head, api.ErrCorrupt)
			if head >= 4 && head < 1024 { // that a Prev may be
				at := place(g, g.Segs-1, g.SegLen-1)
				lay(t, d, at, delta(0, 9, head))
				noChain(t, "over no block", d, g, 0, at, api.ErrCorrupt)
				lay(t, d, place(g, 1, 0), delta(0, 8, at))
				noChain(t, "over no block", d, g, 0, place(g, 1, 0), api.ErrCorrupt)
			}
		}
	}
}

// P20.1: chains of each length that may be, over an image and over zeros, in the first and the last sectors of segments: places from the head on, the newest bytes above.
func TestChains(t *testing.T) {
	for _, g := range shapes() {
		d := device(t, total(g))
		id := g.Pages - 1
		a, b, c, z := place(g, 0, 0), place(g, g.Segs-1, g.SegLen-1), place(g, 2, 0), place(g, 1, g.SegLen-1)
		hasChain(t, "zeros", d, g, id, api.Zeros, nil, api.Page{})
		lay(t, d, b, api.Block{Kind: api.Image, Id: id, Page: api.Page{1, 2, 3, 4, 31: 9}})
		hasChain(t, "an image", d, g, id, b, list(b), api.Page{1, 2, 3, 4, 31: 9})
		lay(t, d, c, api.Block{Kind: api.Delta, Id: id, Off: 1, Bytes: []byte{7, 8}, Prev: b})
		hasChain(t, "a delta", d, g, id, c, list(c, b), api.Page{1, 7, 8, 4, 31: 9})
		lay(t, d, a, api.Block{Kind: api.Delta, Id: id, Off: 2, Bytes: []byte{5, 6}, Prev: c})
		hasChain(t, "two deltas", d, g, id, a, list(a, c, b), api.Page{1, 7, 5, 6, 31: 9})
		lay(t, d, z, api.Block{Kind: api.Delta, Id: id, Off: 2, Bytes: []byte{5, 6}, Prev: a})
		noChain(t, "three deltas over an image", d, g, id, z, api.ErrCorrupt)
		lay(t, d, b, api.Block{Kind: api.Delta, Id: id, Off: 16, Bytes: bytes.Repeat([]byte{4}, 16), Prev: api.Zeros})
		page := api.Page(bytes.Repeat([]byte{4}, 32))
		clear(page[:16])
		hasChain(t, "over zeros", d, g, id, b, list(b), page)
		copy(page[1:], []byte{7, 8})
		hasChain(t, "two over zeros", d, g, id, c, list(c, b), page)
		copy(page[2:], []byte{5, 6})
		hasChain(t, "three over zeros", d, g, id, a, list(a, c, b), page)
		noChain(t, "four over zeros", d, g, id, z, api.ErrCorrupt)
	}
}

// P20.1: chains that go in a circle of one block, of two, of three, of four, of five; a fourth block that is right, wrong, or zeros is one too many anyway.
func TestChainsThatAreTooLong(t *testing.T) {
	g := geom()
	for n := 1; n <= 5; n++ {
		d := device(t, total(g))
		for i := range n {
			lay(t, d, 20+i, delta(3, byte(i), 20+(i+1)%n))
		}
		for i := range n {
			noChain(t, "a circle", d, g, 3, 20+i, api.ErrCorrupt)
		}
	}
	for _, last := range list(23, 24, 99, 1023) {
		d := device(t, total(g))
		lay(t, d, 20, delta(3, 1, 21))
		lay(t, d, 21, delta(3, 2, 22))
		lay(t, d, 22, delta(3, 3, last))
		lay(t, d, 23, image(3, 1))
		lay(t, d, 24, image(4, 1))
		noChain(t, "a fourth block", d, g, 3, 20, api.ErrCorrupt)
		if c, e := chain(t, "three blocks", d, g, 3, 21); (e == api.OK) != (last == 23) || last == 23 && !slices.Equal(c.Places, list(21, 22, 23)) {
			t.Errorf("behind it %d: %+v, %d", last, c, e)
		}
	}
}

// P20.1: a delta of one page that hangs on another page's block, or on a mapping page's of its number, at each place of a chain.
func TestChainsOfTwoPages(t *testing.T) {
	g := geom()
	for at := range 3 {
		for _, other := range []api.Block{image(4, 1), delta(4, 1, api.Zeros), delta(4, 1, 21), delta(4, 1, 22), mapping(3, 22, 22), mapping(1)} {
			d := device(t, total(g))
			l := []api.Block{delta(3, 1, 21), delta(3, 2, 22), image(3, 3)}
			for i, b := range l {
				lay(t, d, 20+i, b)
			}
			hasChain(t, "of one page", d, g, 3, 20, list(20, 21, 22), api.Page{3, 1, 31: 3})
			lay(t, d, 20+at, other)
			noChain(t, "of two pages", d, g, 3, 20, api.ErrCorrupt)
			if l, page, ok := second(d, g, 4, 20, 3); ok { // the other page's, if its block is the first one
				hasChain(t, "of the other page", d, g, 4, 20, l, page)
			} else {
				noChain(t, "of two pages", d, g, 4, 20, api.ErrCorrupt)
			}
		}
	}
}

// pick tells numbers by turns from a seed on.
func pick(seed uint32) func(n int) int {
	return func(n int) int {
		seed = seed*1664525 + 1013904223
		return int(seed>>8) % n
	}
}

// anyBlock is a block of one of two pages, or a mapping page's, that lies over zeros, over one of 16 places, or over another one.
func anyBlock(next func(n int) int) api.Block {
	id := next(2)
	switch next(10) {
	case 0:
		return mapping(id)
	case 1, 2:
		return api.Block{Kind: api.Image, Id: id, Page: api.Page{byte(next(256)), 5: byte(next(256)), 31: 1}}
	}
	prev := list(api.Zeros, 4+next(16), 4+next(16), 4+next(1020))[next(4)]
	n := 1 + next(16)
	return api.Block{Kind: api.Delta, Id: id, Off: next(33 - n), Bytes: bytes.Repeat([]byte{byte(next(256))}, n), Prev: prev}
}

// P20.1: blocks that lie over each other anyhow, each page with each head, held against the second way.
func TestAnyChains(t *testing.T) {
	next := pick(3)
	lengths := map[int]int{}
	for round := range 1000 {
		g := shapes()[round%len(shapes())]
		d := device(t, total(g)+round%3)
		for at := range 16 {
			lay(t, d, 4+at, anyBlock(next))
		}
		for id := range min(2, g.Pages) {
			for head := 1; head < 24; head++ {
				want, page, ok := second(d, g, id, head, 3)
				if ok {
					lengths[len(want)]++
					hasChain(t, "any", d, g, id, head, want, page)
				} else {
					lengths[-1]++
					noChain(t, "any", d, g, id, head, api.ErrCorrupt)
				}
			}
		}
	}
	for _, n := range list(-1, 0, 1, 2, 3) {
		if lengths[n] < 100 {
			t.Errorf("%d blocks: %d times", n, lengths[n])
		}
	}
}

// P20.1, P20.3: what is loose is read as the device reads it; what is asked leaves the device, and its failure, as they were.
func TestChainsOfLooseBlocks(t *testing.T) {
	w := begun(t)
	w.d.Flush()
	lay(t, w.d, 150, delta(1, 9, delta1()))
	w.d.Fail(0)
	stays(t, "asked", w.d, func() {
		hasChain(t, "loose", w.d, geom(), 1, 150, list(150, delta1(), image1()), api.Page{6, 9, 31: 6})
		noChain(t, "loose", w.d, geom(), 0, 150, api.ErrCorrupt)
		recover.Places(w.d, w.state())
	})
	if e := w.d.Flush(); e != api.ErrDevice {
		t.Errorf("the failure was met: %d", e)
	}
	w.d.Crash(nil)
	noChain(t, "lost", w.d, geom(), 1, 150, api.ErrCorrupt)
}

// P20.2: no device; P20.4, the chapter's example: a new one, and others without a region.
func TestLoadOfNoStore(t *testing.T) {
	if s, e := recover.Load(nil); e != api.ErrArg || !isZero(s) {
		t.Errorf("no device: %+v, %d", s, e)
	}
	if s, e := recover.Load(&dev.Dev{}); e != api.ErrCorrupt || !isZero(s) {
		t.Errorf("no sectors: %+v, %d", s, e)
	}
	for _, n := range list(1, 2, 3, 4, 147, 148, 229, 516, 1024) {
		d, _ := dev.New(n)
		corrupt(t, "new", d)
		corrupt(t, "of none's sectors", device(t, n))
	}
	w := begun(t)
	for _, at := range list(2, 3) {
		w := begun(t)
		w.d.Write(at, api.Sector{})
		corrupt(t, "half a region", w.d)
	}
	short := device(t, total(geom())-1)
	for i := range short.Len() {
		s, _ := w.d.Read(i)
		short.Write(i, s)
	}
	corrupt(t, "one sector too few", short)
}

// P20.2: a region without roots, of each geometry, wherever its journal goes on: no pages; all segments are free but that one.
func TestLoadOfNoPages(t *testing.T) {
	for _, g := range shapes() {
		for seg := range g.Segs {
			for _, off := range list(0, 1, g.SegLen-1, g.SegLen) {
				d := device(t, total(g))
				r := api.Region{Gen: uint32(seg), Geom: g, Seg: seg, Off: off, Seq: uint32(off)*1000 + 7}
				anchor.Write(d, r)
				var free []int
				for s := range g.Segs {
					if s != seg {
						free = append(free, s)
					}
				}
				at := journal.At{Seg: seg, Off: off, Seq: r.Seq, Free: free}
				loads(t, "no pages", d, recover.State{Region: r, Heads: make([]int, g.Pages), Old: make([]int, g.Pages), At: at})
			}
		}
	}
}

// P20.2: the world: heads of all kinds, and what is free.
func TestLoadOfPages(t *testing.T) {
	w := begun(t)
	loads(t, "the world", w.d, w.state(2, 4, 5, 6, 7))
	w.r.Seg, w.r.Off = 5, 25
	w.anchor(t)
	loads(t, "another segment", w.d, w.state(2, 4, 6, 7))
	w.r.Seg, w.r.Off = 8, 25
	w.anchor(t)
	loads(t, "a segment that is full", w.d, w.state(2, 4, 5, 6, 7))
	w.heads[10] = api.Zeros
	w.mapped(t)
	w.r.Off = 0
	w.anchor(t)
	loads(t, "a page less", w.d, w.state(2, 3, 4, 5, 6, 7))
	w.r.Roots[1] = 0
	w.anchor(t)
	w.heads[9], w.heads[10] = 0, 0
	loads(t, "a mapping page less", w.d, w.state(2, 3, 4, 5, 6, 7))
	w.r.Roots[0] = 0
	w.anchor(t)
	w.heads = make([]int, 12)
	loads(t, "no mapping pages", w.d, w.state(0, 1, 2, 3, 4, 5, 6, 7))
}

// P20.2: of two regions the newer one is it, right or not; what the elder one says stays out of it.
func TestNewestOfTwo(t *testing.T) {
	w := begun(t)
	elder := w.r
	lay(t, w.d, 150, mapping(0, api.Zeros))
	w.r = api.Region{Gen: 2, Geom: geom(), Seg: 2, Off: 3, Seq: 90, Roots: [8]int{150}}
	w.anchor(t)
	w.heads = list(1, 0, 0, 0, 0, 0, 0, 0, 0, 0, 0, 0)
	loads(t, "the newer one", w.d, w.state(0, 1, 3, 4, 6, 7, 8))
	w.d.Write(150, sample(3))
	corrupt(t, "the newer one is not right", w.d)
	w.d.Write(0, sample(3))
	w = world{d: w.d, r: elder, heads: begun(t).heads}
	loads(t, "the elder one alone", w.d, w.state(2, 4, 5, 6, 7))
}

// P20.2: each way in which a root's sector is not that mapping page's.
func TestRoots(t *testing.T) {
	x, _ := summary.Encode(summary.Summary{Seq: 3, Marks: []api.Mark{{Kind: api.Map, Id: 0}}})
	crooked, _ := block.Encode(mapping(0), 3)
	crooked[6] = 2 // no head
	extra, _ := block.Encode(mapping(0), 3)
	extra[63] = 1
	for id, at := range list(map0(), map1()) {
		for _, s := range []api.Sector{{}, sample(1), x, crooked, extra, {3, byte(id + 4)}} {
			w := begun(t)
			w.d.Write(at, s)
			corrupt(t, "no mapping page", w.d)
		}
		for _, b := range []api.Block{image(id, 5), delta(id, 5, 1), delta(id, 5, map0()), mapping(1 - id), mapping(2), mapping(7)} {
			w := begun(t)
			lay(t, w.d, at, b)
			corrupt(t, "another block", w.d)
		}
		w := begun(t)
		lay(t, w.d, at, mapping(id))
		agreesAs(t, "no heads", w.d, true)
	}
	w := begun(t)
	w.r.Roots = [8]int{map1(), map0()}
	w.anchor(t)
	corrupt(t, "roots turned round", w.d)
	w.r.Roots = [8]int{map0(), map0()}
	w.anchor(t)
	corrupt(t, "one root twice", w.d)
}

// P20.2: heads behind the last page, each one, of each kind: none may be; the last page's may.
func TestHeadsBehindTheLastPage(t *testing.T) {
	for at := range 8 {
		for _, head := range list(api.Zeros, image0(), 4, 1023) {
			w := begun(t)
			b := mapping(1)
			b.Heads[at] = head
			lay(t, w.d, map1(), b)
			if at >= 4 {
				corrupt(t, "behind the last page", w.d)
			} else {
				agreesAs(t, "a page's head", w.d, head == api.Zeros)
			}
		}
	}
}

// P20.2: as many pages as may be allocated, of each geometry, and one more.
func TestCap(t *testing.T) {
	for _, g := range shapes() {
		for n := range g.Pages + 1 {
			d := device(t, total(g))
			r := api.Region{Gen: 4, Geom: g, Seg: 0, Off: 8}
			want := make([]int, g.Pages)
			for i := range n {
				want[g.Pages-1-i] = api.Zeros
			}
			for id := range count(g) {
				r.Roots[id] = place(g, 0, id)
				lay(t, d, r.Roots[id], mapping(id, want[8*id:min(8*id+8, g.Pages)]...))
			}
			anchor.Write(d, r)
			s, e := load(t, "pages", d)
			if (e == api.OK) != (n <= most(g)) || e == api.OK && !slices.Equal(s.Heads, want) {
				t.Errorf("%+v: %d pages: %+v, %d", g, n, s, e)
			}
		}
	}
}

// P20.2: each way in which a page's chain is not right, at the head and behind it.
func TestChainsThatAreNotRight(t *testing.T) {
	free := list(2, 4, 5, 6, 7)
	for i, c := range []struct {
		at int
		b  api.Block
		ok bool
	}{
		{image0(), image(0, 77), true}, {image0(), image(1, 5), false}, {image0(), delta(0, 5, 1), true}, {image0(), delta(0, 5, image0()), false}, {image0(), delta(0, 5, image1()), false}, {image0(), mapping(0), false},
		{delta1(), image(1, 77), true}, {delta1(), delta(1, 77, 1), true}, {delta1(), delta(1, 77, image0()), false}, {delta1(), delta(1, 77, total(geom())), false}, {delta1(), delta(0, 77, image1()), false},
		{image1(), image(2, 5), false}, {image1(), image(1, 77), true}, {image1(), delta(1, 5, delta1()), false}, {image1(), delta(1, 5, 1), true}, {image1(), mapping(1), false},
		{last10(), image(9, 1), false}, {last10(), delta(10, 1, 1), true}, {last10(), delta(10, 1, 150), false}, {last10(), delta(10, 1, head10()), false},
		{next10(), delta(10, 1, delta9()), false}, {next10(), image(10, 77), true}, {next10(), image(2, 77), false}, {delta9(), delta(9, 8, delta9()), false}, {delta9(), delta(8, 8, 1), false},
	} {
		w := begun(t)
		lay(t, w.d, c.at, c.b)
		if c.ok {
			loads(t, "right", w.d, w.state(free...))
		} else {
			corrupt(t, "not right", w.d)
		}
		w.d.Write(c.at, []api.Sector{{}, sample(9)}[i%2])
		corrupt(t, "no block", w.d)
	}
	for _, head := range list(4, 20, 150, total(geom()), 1023) {
		w := begun(t)
		w.heads[4] = head
		w.mapped(t)
		corrupt(t, "a head of no block", w.d)
	}
	w := begun(t) // a fourth block
	lay(t, w.d, 150, delta(10, 4, head10()))
	w.heads[10] = 150
	w.mapped(t)
	corrupt(t, "four blocks", w.d)
}

// P20.2: a place in two chains, from each block of a chain on, and one in a chain and among the roots.
func TestPlacesTwice(t *testing.T) {
	for _, head := range list(image0(), delta1(), image1(), delta9(), head10(), next10(), last10(), map0(), map1()) {
		w := begun(t)
		w.heads[3] = head
		w.mapped(t)
		corrupt(t, "a head twice", w.d)
		w = begun(t)
		w.heads[3] = 150
		w.mapped(t)
		lay(t, w.d, 150, delta(3, 9, head))
		corrupt(t, "a block twice", w.d)
		for id := range 2 {
			if w := begun(t); head != w.r.Roots[id] {
				w.r.Roots[id] = head
				w.anchor(t)
				corrupt(t, "a block and a root", w.d)
			}
		}
	}
}

// P20.2: the region's Seg and Off against all places, heads, what they lie over, and roots: each place at Off or behind is not right, just ahead of it is.
func TestPlacesAtOff(t *testing.T) {
	all := list(image0(), image1(), map0(), map1(), delta1(), delta9(), last10(), next10(), head10())
	for seg := range 9 {
		for off := range 26 {
			w := begun(t)
			w.r.Seg, w.r.Off = seg, off
			w.anchor(t)
			ok := !slices.ContainsFunc(all, func(at int) bool { return at >= place(geom(), seg, off) && at < place(geom(), seg+1, 0) })
			agreesAs(t, "Off", w.d, ok)
		}
	}
	there := place(geom(), 6, 12)
	for _, at := range list(image0(), delta1(), image1(), last10(), map0(), map1()) { // one of them alone at Off, and just ahead of it
		w := begun(t)
		switch at {
		case image0():
			w.heads[0] = there
		case delta1():
			w.heads[1] = there
		case image1():
			lay(t, w.d, delta1(), delta(1, 7, there))
		case last10():
			lay(t, w.d, next10(), delta(10, 2, there))
		case map0():
			w.r.Roots[0] = there
		case map1():
			w.r.Roots[1] = there
		}
		w.mapped(t)
		s, _ := w.d.Read(at)
		w.d.Write(there, s)
		w.r.Seg = 6
		for off := range 26 {
			w.r.Off = off
			w.anchor(t)
			agreesAs(t, "one place", w.d, off > 12)
		}
	}
}

// P20.2: one group of each kind of item: the heads, the Old ones, the roots, and where it ends.
func TestOneItem(t *testing.T) {
	first := place(geom(), 1, 7) // the first block of a group at Off
	for _, c := range []struct {
		name    string
		x       api.Item
		id      int
		head    int
		sectors int
	}{
		{"an image of a page", item(image(0, 9)), 0, first, 2}, {"an image of zeros", item(image(2, 9)), 2, first, 2}, {"an image of no page", item(image(11, 9)), 11, first, 2}, {"an image of a full chain", item(image(10, 9)), 10, first, 2},
		{"a delta over an image", item(delta(0, 9, image0())), 0, first, 2}, {"a delta over a delta", item(delta(1, 9, delta1())), 1, first, 2}, {"a delta over zeros", item(delta(2, 9, 1)), 2, first, 2}, {"a delta over one over zeros", item(delta(9, 9, delta9())), 9, first, 2},
		{"zeros of a page", alloc(1), 1, 1, 1}, {"zeros of zeros", alloc(2), 2, 1, 1}, {"zeros of no page", alloc(3), 3, 1, 1}, {"zeros of the last page", alloc(11), 11, 1, 1},
		{"none of a page", free(10), 10, 0, 1}, {"none of zeros", free(2), 2, 0, 1}, {"none of no page", free(11), 11, 0, 1},
	} {
		w := begun(t)
		put(t, w.journal(t), items(c.x))
		want := w.state(2, 4, 5, 6, 7) // a segment is free no sooner than a region says so
		want.Heads[c.id] = c.head
		want.At.Off, want.At.Seq = 6+c.sectors, 21
		loads(t, c.name, w.d, want)
	}
}

// P20.2: a delta whose Prev is not the head that was: another place of its own chain, another page's head, zeros, none's; nor is one of a page that is none.
func TestDeltasOfAnotherHead(t *testing.T) {
	for _, c := range []struct{ id, prev int }{
		{0, 1}, {0, image1()}, {0, delta1()}, {0, 4}, {1, image1()}, {1, 1}, {1, delta9()}, {2, image0()}, {2, 4}, {9, 1}, {9, delta1()}, {10, next10()}, {10, last10()}, {10, 1}, {3, 1}, {3, image0()}, {11, 1}, {11, head10()},
		{10, head10()}, // that one is too long
	} {
		w := begun(t)
		put(t, w.journal(t), items(item(delta(c.id, 9, c.prev))))
		corrupt(t, "another head", w.d)
	}
}

// P20.2: the head that was is the one that the groups ahead left, not the region's.
func TestDeltasOneBehindTheOther(t *testing.T) {
	for _, c := range []struct {
		name  string
		first api.Item
		prev  func(p int) int
		ok    bool
	}{
		{"over the new image", item(image(0, 9)), func(p int) int { return p }, true}, {"over the old image", item(image(0, 9)), func(p int) int { return image0() }, false},
		{"over the new delta", item(delta(0, 9, image0())), func(p int) int { return p }, true}, {"beside the new delta", item(delta(0, 9, image0())), func(p int) int { return image0() }, false},
		{"over zeros", alloc(0), func(p int) int { return 1 }, true}, {"behind zeros", alloc(0), func(p int) int { return image0() }, false},
		{"over none", free(0), func(p int) int { return image0() }, false}, {"over none", free(0), func(p int) int { return 1 }, false},
		{"behind another page's", item(image(2, 9)), func(p int) int { return image0() }, true}, {"over another page's", item(image(2, 9)), func(p int) int { return p }, false},
		{"behind its mapping page", item(mapping(0)), func(p int) int { return image0() }, true}, {"over its mapping page", item(mapping(0)), func(p int) int { return p }, false},
	} {
		w := begun(t)
		j := w.journal(t)
		p := put(t, j, items(c.first))
		q := put(t, j, items(item(delta(0, 8, c.prev(max(p[0], 4))))))
		agreesAs(t, c.name, w.d, c.ok)
		if s, _ := recover.Load(w.d); c.ok && s.Heads[0] != q[0] {
			t.Errorf("%s: head %d, not %d", c.name, s.Heads[0], q[0])
		}
	}
}

// P20.2: Ids that the geometry has not, of each kind; the last page and the last mapping page are taken.
func TestNoSuchId(t *testing.T) {
	for _, g := range shapes() {
		for id := range 64 {
			for _, x := range []api.Item{item(image(id, 5)), alloc(id), free(id), item(delta(id, 5, 1))} {
				d := device(t, total(g))
				r := api.Region{Gen: 5, Geom: g, Seg: 2, Seq: 9}
				anchor.Write(d, r)
				j, _ := journal.New(d, g, journal.At{Seg: 2, Seq: 9})
				if x.Kind == api.Delta {
					put(t, j, items(alloc(id)))
				}
				put(t, j, items(x))
				agreesAs(t, "an Id", d, id < g.Pages && (most(g) > 0 || x.Kind == api.Free))
			}
		}
		for id := range 8 {
			d := device(t, total(g))
			anchor.Write(d, api.Region{Gen: 5, Geom: g, Seg: 2, Seq: 9})
			j, _ := journal.New(d, g, journal.At{Seg: 2, Seq: 9})
			put(t, j, items(item(mapping(id))))
			agreesAs(t, "a mapping page", d, id < count(g))
		}
	}
}

// P20.2: a Map item: the root is its place, the Old heads of its pages are its Heads, whatever they are, the heads stay; heads behind the last page are not right.
func TestMapItems(t *testing.T) {
	first := place(geom(), 1, 7)
	w := begun(t)
	put(t, w.journal(t), items(item(mapping(0, 0, 1, 4, 1023, image0(), 5, 6, 7))))
	want := w.state(2, 4, 5, 6, 7)
	copy(want.Old, list(0, 1, 4, 1023, image0(), 5, 6, 7))
	want.Region.Roots[0], want.At.Off, want.At.Seq = first, 8, 21
	loads(t, "the first mapping page", w.d, want)
	w = begun(t)
	put(t, w.journal(t), items(item(mapping(1, 8, 9, 10, 11))))
	want = w.state(2, 4, 5, 6, 7)
	copy(want.Old[8:], list(8, 9, 10, 11))
	want.Region.Roots[1], want.At.Off, want.At.Seq = first, 8, 21
	loads(t, "the second mapping page", w.d, want)
	for at := 4; at < 8; at++ {
		for _, head := range list(1, 4, 1023) {
			b := mapping(1)
			b.Heads[at] = head
			w := begun(t)
			j := w.journal(t)
			put(t, j, items(item(b)))
			corrupt(t, "a head behind the last page", w.d)
			put(t, j, items(item(mapping(1, w.heads[8:]...))))
			corrupt(t, "it was not right, whatever comes behind it", w.d)
		}
	}
}

// P20.2: several groups, several items of each: the last of each page counts, and the mapping pages as they were written last; the Old heads of a page whose mapping page was written, and of one whose wasn't.
func TestGroups(t *testing.T) {
	w := begun(t)
	j := w.journal(t, 2, 4, 5, 6, 7)
	p := put(t, j, items(item(delta(0, 9, image0())), free(1), alloc(9), item(image(3, 4))))
	q := put(t, j, items(item(mapping(0, p[0], 0, 1, p[3])), item(image(9, 7)), item(delta(0, 6, p[0]))))
	want := w.state(2, 4, 5, 6, 7)
	want.Heads = list(q[2], 0, 1, p[3], 0, 0, 0, 0, 0, q[1], head10(), 0)
	want.Old = list(p[0], 0, 1, p[3], 0, 0, 0, 0, 0, delta9(), head10(), 0)
	want.Region.Roots[0], want.At.Off, want.At.Seq = q[0], 13, 22
	loads(t, "two groups", w.d, want)
	u := put(t, j, items(item(mapping(1, 0, q[1])), item(image(10, 5)), free(2), alloc(3)))
	v := put(t, j, items(item(mapping(0, q[2], 0, 0, 1))))
	want.Heads = list(q[2], 0, 0, 1, 0, 0, 0, 0, 0, q[1], u[1], 0)
	want.Old = list(q[2], 0, 0, 1, 0, 0, 0, 0, 0, q[1], 0, 0)
	want.Region.Roots = [8]int{v[0], u[0]}
	want.At.Off, want.At.Seq = 18, 24
	loads(t, "four groups", w.d, want)
	if at := j.At(); !sameAt(at, want.At) {
		t.Errorf("the journal is at %+v, not %+v", at, want.At)
	}
	if l, e := recover.Places(w.d, want); e != api.OK || !slices.Equal(l, list(q[2], p[0], image0(), q[1], u[1], v[0], u[0])) {
		t.Errorf("places %v, %d", l, e)
	}
}

// P20.2: a group of several parts, in the least free segment: At is behind it, that segment is no longer free; the one ahead is not free either, though nothing in it is live any more.
func TestWhereItEnds(t *testing.T) {
	w := begun(t)
	w.r.Seg, w.r.Off = 5, 24
	w.anchor(t)
	j := w.journal(t, 2, 4, 6, 7)
	put(t, j, items(free(10)))
	p := put(t, j, items(item(image(0, 1)), item(image(1, 2)), item(image(2, 3)), free(9)))
	want := w.state(4, 6, 7)
	want.Heads = list(p[0], p[1], p[2], 0, 0, 0, 0, 0, 0, 0, 0, 0)
	want.At = journal.At{Seg: 2, Off: 4, Seq: 22, Free: list(4, 6, 7)}
	loads(t, "in the least free one", w.d, want)
	for i := range 5 {
		q := put(t, j, items(item(image(0, 1)), item(image(1, 1)), item(image(2, 1)), item(image(3, byte(i)))))
		copy(want.Heads, q)
	}
	want.At = journal.At{Seg: 4, Off: 5, Seq: 27, Free: list(6, 7)}
	loads(t, "in the next one", w.d, want)

	g := api.Geom{Pages: 40, Segs: 16, SegLen: 30, Frames: 4}
	d := device(t, total(g))
	anchor.Write(d, api.Region{Gen: 3, Geom: g, Seg: 7, Off: 2, Seq: 50})
	j, _ = journal.New(d, g, journal.At{Seg: 7, Off: 2, Seq: 50})
	var many []api.Item
	heads := make([]int, 40)
	for id := range 40 {
		many = append(many, free(id))
		if id%4 == 0 {
			many[id] = item(image(id, 3))
		}
	}
	for id, at := range put(t, j, many) {
		heads[id] = at
	}
	s, e := load(t, "two parts", d)
	if e != api.OK || !slices.Equal(s.Heads, heads) || s.At.Seg != 7 || s.At.Off != 14 || s.At.Seq != 52 || len(s.At.Free) != 15 {
		t.Errorf("two parts: %+v, %d", s, e)
	}
}

// P20.2: the state is right ahead of the groups, or it is not, and behind them, or it is not: it must be both.
func TestRightTwice(t *testing.T) {
	w := begun(t) // 5 pages of 6
	j := w.journal(t)
	put(t, j, items(alloc(3)))
	agreesAs(t, "as many as may be", w.d, true)
	put(t, j, items(item(image(4, 1))))
	agreesAs(t, "one more", w.d, false)
	put(t, j, items(free(0)))
	agreesAs(t, "one less again", w.d, true)
	put(t, j, items(alloc(5), free(1)))
	agreesAs(t, "one more and one less", w.d, true)
	put(t, j, items(alloc(0), alloc(1), free(3), free(4)))
	agreesAs(t, "two more and two less", w.d, true)

	w = begun(t)
	j = w.journal(t)
	p := put(t, j, items(item(delta(10, 1, head10()))))
	agreesAs(t, "four blocks", w.d, false)
	put(t, j, items(item(delta(10, 1, p[0]))))
	agreesAs(t, "five blocks", w.d, false)
	put(t, j, items(item(image(10, 1))))
	agreesAs(t, "one block again", w.d, true)

	w = begun(t)
	w.heads = list(image0(), delta1(), 1, 1, 1, 1, 0, 0, 0, delta9(), head10(), 0)
	w.mapped(t)
	agreesAs(t, "more pages than may be", w.d, false)
	put(t, w.journal(t), items(free(3), free(4), free(5)))
	agreesAs(t, "freed behind it", w.d, false)

	w = begun(t)
	w.d.Write(image1(), sample(7))
	put(t, w.journal(t), items(item(image(1, 5))))
	agreesAs(t, "a chain made right behind it", w.d, false)
}

// P20.2: no place at Off of At or behind: where the groups end in another segment, the region's own Seg at Off and behind is theirs; a chain that lies over a sector that is not written yet is not right.
func TestRightAtTheEnd(t *testing.T) {
	w := begun(t)
	j := w.journal(t, 2, 4, 5, 6, 7)
	for range 8 {
		put(t, j, items(item(image(0, 3)), item(image(2, 4))))
	}
	at := j.At()
	if at.Seg != 2 || at.Off != 6 {
		t.Fatalf("the journal is at %+v", at)
	}
	want := w.state(4, 5, 6, 7)
	want.Heads[0], want.Heads[2] = place(geom(), 2, 4), place(geom(), 2, 5)
	want.At = at
	loads(t, "in another segment", w.d, want)
	for _, prev := range list(0, 1, 2) {
		w := begun(t)
		lay(t, w.d, place(geom(), 1, 20), image(0, 1)) // where the journal goes on
		lay(t, w.d, place(geom(), 6, 20), image(0, 1)) // in a free segment
		w.heads[0] = list(image0(), place(geom(), 1, 20), place(geom(), 6, 20))[prev]
		w.mapped(t)
		put(t, w.journal(t), items(item(delta(0, 1, w.heads[0]))))
		agreesAs(t, "over it", w.d, prev != 1)
	}
}

// P20.2: two items of one page in one group are no group: what stands ahead of it is the end, whatever they say; of a page and the mapping page of its number they may be one.
func TestTwoItemsOfOnePage(t *testing.T) {
	for _, second := range []api.Item{item(image(0, 9)), alloc(0), free(0), item(delta(0, 9, 1)), item(delta(0, 9, image0()))} {
		w := begun(t)
		x, e := summary.Encode(summary.Summary{Seq: 20, Marks: []api.Mark{{Kind: api.Image, Id: 0}, second.Mark}})
		if e != api.OK {
			t.Fatal(e)
		}
		w.d.Write(place(geom(), 1, 6), x)
		for i, b := range []api.Block{image(0, 8), second.Block} {
			s, e := block.Encode(b, 20)
			if e == api.OK {
				w.d.Write(place(geom(), 1, 7+i), s)
			}
		}
		loads(t, "two items", w.d, w.state(2, 4, 5, 6, 7))
	}
	w := begun(t)
	p := put(t, w.journal(t), items(item(image(1, 9)), item(mapping(1, 1))))
	want := w.state(2, 4, 5, 6, 7)
	want.Heads[1], want.Region.Roots[1] = p[0], p[1]
	copy(want.Old[8:], list(1, 0, 0, 0))
	want.At.Off, want.At.Seq = 9, 21
	loads(t, "a page and a mapping page", w.d, want)
}

// P20.2: a group of another number, one that is cut, and one in a segment that is not the least free one are not behind the region.
func TestNotBehind(t *testing.T) {
	for _, c := range []struct {
		at  int
		seq uint32
		ok  bool
	}{
		{place(geom(), 1, 6), 20, true}, {place(geom(), 1, 6), 19, false}, {place(geom(), 1, 6), 21, false}, {place(geom(), 1, 5), 20, false}, {place(geom(), 1, 7), 20, false},
		{place(geom(), 2, 0), 20, true}, {place(geom(), 2, 1), 20, false}, {place(geom(), 4, 0), 20, false}, {place(geom(), 0, 0), 20, false}, {place(geom(), 3, 1), 20, false},
	} {
		for cut := range 2 {
			w := begun(t)
			l, _, _ := group.Lay(c.seq, items(item(image(2, 9))))
			for i, s := range l[:2-cut] {
				w.d.Write(c.at+i, s)
			}
			s, e := load(t, "a group", w.d)
			if e != api.OK || (s.Heads[2] == c.at+1) != (c.ok && cut == 0) {
				t.Errorf("at %d, number %d, %d cut: %+v, %d", c.at, c.seq, cut, s, e)
			}
			agrees(t, "a group", w.d)
		}
	}
}

// places holds what Places tells; the device is as it was.
func places(t *testing.T, name string, d *dev.Dev, s recover.State, want []int, wrong api.Errno) {
	t.Helper()
	ask := func() {
		if l, e := recover.Places(d, s); e != wrong || !slices.Equal(l, want) {
			t.Errorf("%s: %v, %d, not %v, %d", name, l, e, want, wrong)
		}
	}
	if d == nil {
		ask()
		return
	}
	stays(t, name, d, ask)
}

// P20.3: of a state as Load tells it: page by page, each from the head on, then the roots that are not 0, rising by Id; whatever the Old heads and At are.
func TestPlaces(t *testing.T) {
	w := begun(t)
	s, _ := load(t, "the world", w.d)
	all := list(image0(), delta1(), image1(), delta9(), head10(), next10(), last10(), map0(), map1())
	places(t, "as it was loaded", w.d, s, all, api.OK)
	s.Old, s.At = nil, journal.At{Seg: -4, Free: list(7, 7)}
	places(t, "the Old heads gone", w.d, s, all, api.OK)
	s.Region.Roots = [8]int{0, map0()}
	places(t, "without the first root", w.d, s, all[:8], api.OK)
	s.Region.Roots = [8]int{900, 0, 800, -5, 0, 3, 1, 900}
	places(t, "any roots", w.d, s, append(all[:7:7], 900, 800, -5, 3, 1, 900), api.OK)
	s.Region.Roots = [8]int{}
	places(t, "without roots", w.d, s, all[:7], api.OK)
	s.Heads = list(0, delta1(), 0, 0, 0, 0, 0, 0, 0, 0, last10(), 0)
	places(t, "fewer pages", w.d, s, list(delta1(), image1(), last10()), api.OK)
	s.Heads = list(1, delta1(), image0())[:2]
	places(t, "fewer heads", w.d, s, list(delta1(), image1()), api.OK)
	s.Heads = make([]int, 12)
	places(t, "no pages", w.d, s, nil, api.OK)
	s.Heads = nil
	s.Region.Roots[7] = 44
	places(t, "no heads", w.d, s, list(44), api.OK)
	places(t, "nothing", w.d, recover.State{}, nil, api.OK)
}

// P20.3: Chain's error: of a chain that is not right, wherever it is; without a device, with one that has too few sectors, of a geometry that may not be, of more heads than pages.
func TestPlacesOfNoState(t *testing.T) {
	for id := range 12 {
		for _, head := range list(2, 3, 4, map0(), 150, total(geom()), -1, math.MaxInt, math.MinInt) {
			w := begun(t)
			s := w.state()
			s.Heads[id] = head
			places(t, "a chain that is not right", w.d, s, nil, api.ErrCorrupt)
		}
	}
	w := begun(t)
	s := w.state()
	places(t, "no device", nil, s, nil, api.ErrArg)
	places(t, "too few sectors", device(t, total(geom())-1), s, nil, api.ErrArg)
	s.Heads = append(s.Heads, api.Zeros)
	places(t, "more heads than pages", w.d, s, nil, api.ErrArg)
	s = w.state()
	s.Region.Geom.Segs = 5
	places(t, "no geometry", w.d, s, nil, api.ErrArg)
	s = w.state()
	s.Heads[10] = 4
	s.Region.Geom.Pages = 10
	places(t, "the first error", w.d, s, nil, api.ErrArg)
	s.Heads[9] = 4
	places(t, "the first error", w.d, s, nil, api.ErrCorrupt)
}

// fill sets all of a list's room, spare room too, to one number.
func fill(l []int, n int) {
	for i := range l[:cap(l)] {
		l[:cap(l)][i] = n
	}
}

// Rule 2: what is handed in stays as it was, its spare room too, and is not kept.
func TestNothingChanged(t *testing.T) {
	w := begun(t)
	for n := range 13 {
		room := append(slices.Clone(w.heads), 77, -3, 9)
		old := append(slices.Clone(w.heads), 5, 6)
		free := list(2, 4, 88)
		s := recover.State{Region: w.r, Heads: room[:n], Old: old[:n], At: journal.At{Seg: 1, Off: 6, Free: free[:2]}}
		l, e := recover.Places(w.d, s)
		if e != api.OK {
			t.Errorf("%d heads: %d", n, e)
		}
		fill(l, -1)
		if !slices.Equal(room[:12], w.heads) || !slices.Equal(room[12:], list(77, -3, 9)) || !slices.Equal(old[:12], w.heads) || !slices.Equal(free, list(2, 4, 88)) {
			t.Errorf("%d heads: %v, %v, %v", n, room, old, free)
		}
	}
}

// Rule 2: what is told shares no memory, spare room too, with another answer, nor do two lists of one answer.
func TestNewMemory(t *testing.T) {
	for n := range 3 {
		w := begun(t)
		j := w.journal(t, 2, 4, 5, 6, 7)
		for i := range n {
			put(t, j, items(item(image(2, byte(i))), item(mapping(0, image0()))))
		}
		want, _ := recover.Load(w.d)
		a, _ := recover.Load(w.d)
		all, _ := recover.Places(w.d, a)
		c, _ := recover.Chain(w.d, geom(), 10, head10())
		for k, l := range [][]int{a.Heads, a.Old, a.At.Free} {
			b, _ := recover.Load(w.d)
			fill([][]int{b.Heads, b.Old, b.At.Free}[k], -9)
			left := [][]int{b.Heads, b.Old, b.At.Free}
			for m, x := range [][]int{want.Heads, want.Old, want.At.Free} {
				if m != k && !slices.Equal(left[m], x) {
					t.Errorf("list %d is shared with list %d: %v, not %v", k, m, left[m], x)
				}
			}
			fill(l, -9)
			loads(t, "spoilt", w.d, want)
		}
		fill(all, -9)
		fill(c.Places, -9)
		again, _ := recover.Places(w.d, want)
		if slices.Contains(again, -9) || len(again) != len(all) {
			t.Errorf("places: %v", again)
		}
		hasChain(t, "spoilt", w.d, geom(), 10, head10(), list(head10(), next10(), last10()), api.Page{1, 3, 31: 1})
		loads(t, "spoilt", w.d, want)
	}
}

// Rule 4: what was asked before, of another device too, changes no answer.
func TestAnswersStay(t *testing.T) {
	w, other := begun(t), begun(t)
	put(t, w.journal(t), items(free(10)))
	want := w.state(2, 4, 5, 6, 7)
	want.Heads[10], want.At.Off, want.At.Seq = 0, 7, 21
	for range 3 {
		loads(t, "one", w.d, want)
		loads(t, "the other", other.d, other.state(2, 4, 5, 6, 7))
		recover.Load(nil)
		corrupt(t, "none", device(t, 300))
		noChain(t, "no page", w.d, geom(), 10, 0, api.ErrNone)
		hasChain(t, "one", w.d, geom(), 1, delta1(), list(delta1(), image1()), api.Page{6, 7, 31: 6})
		noChain(t, "none", device(t, 300), geom(), 1, delta1(), api.ErrCorrupt)
	}
}

// P20.4: a right device of which one sector is turned, byte by byte, is held against the second way; both answers come.
func TestTurned(t *testing.T) {
	w := begun(t)
	j := w.journal(t, 2, 4, 5, 6, 7)
	p := put(t, j, items(item(delta(0, 9, image0())), alloc(3), item(mapping(1, 0, delta9(), head10()))))
	put(t, j, items(item(delta(0, 8, p[0])), free(2)))
	w.d.Flush()
	told := map[bool]int{}
	all := list(2, 3, image0(), image1(), map0(), map1(), delta1(), delta9(), last10(), next10(), head10())
	for off := 6; off < 13; off++ {
		all = append(all, place(geom(), 1, off))
	}
	for _, at := range all {
		was, _ := w.d.Read(at)
		for i := range was {
			for _, by := range []byte{1, 2, 3, 4, 128, 255} {
				s := was
				s[i] += by
				w.d.Write(at, s)
				told[agrees(t, "turned", w.d)]++
				w.d.Crash(nil)
			}
		}
		for _, other := range append(all[:len(all):len(all)], 0, 4, 150) { // another one of the same device
			s, _ := w.d.Read(other)
			w.d.Write(at, s)
			told[agrees(t, "another sector", w.d)]++
			w.d.Crash(nil)
		}
	}
	if told[true] < 500 || told[false] < 500 {
		t.Errorf("told: %v", told)
	}
}

// P20.4: devices of any bytes: each call ends, and tells no more than that; any geometry, id, head and state.
func TestAnyBytes(t *testing.T) {
	next := pick(11)
	for round := range 400 {
		d := device(t, 1+next(600))
		for i := range d.Len() {
			var s api.Sector
			for k := range s {
				s[k] = byte(next(256) * next(2) * next(2))
			}
			s[0] = byte(list(1, 2, 3, 0x52, 0x53, next(256))[next(6)])
			d.Write(i, s)
		}
		agrees(t, "any bytes", d)
		g := shapes()[round%len(shapes())]
		heads := make([]int, next(20))
		for i := range heads {
			heads[i] = next(600) - 20
		}
		stays(t, "any bytes", d, func() {
			recover.Chain(d, g, next(70)-2, next(600)-20)
			recover.Places(d, recover.State{Region: api.Region{Geom: g, Roots: [8]int{next(600), -1}}, Heads: heads})
		})
	}
}

// seldom is true once in n times.
func seldom(next func(n int) int, n int) bool { return next(n) == 0 }

// anyPages lays blocks of pages anyhow, and the mapping pages and the region that say where they are; most of it may be a store.
func anyPages(t *testing.T, d *dev.Dev, g api.Geom, next func(n int) int) []int {
	t.Helper()
	r := api.Region{Gen: uint32(next(9)), Geom: g, Seg: next(g.Segs), Off: next(g.SegLen + 1), Seq: uint32(next(5))}
	taken := map[int]bool{}
	somewhere := func() int {
		for {
			seg, off := next(g.Segs), next(g.SegLen)
			at := place(g, seg, off)
			if !taken[at] && (seg != r.Seg || off < r.Off) || seldom(next, 30) {
				taken[at] = true
				return at
			}
		}
	}
	heads := make([]int, 8*count(g))
	for range next(min(most(g), 8) + 1) {
		id := next(g.Pages)
		if seldom(next, 40) {
			id = next(len(heads))
		}
		heads[id] = api.Zeros
		for range next(4) {
			at := somewhere()
			b := delta(id, byte(next(9)), max(api.Zeros, heads[id]))
			if seldom(next, 4) {
				b = image(id, byte(next(9)))
			}
			if seldom(next, 30) {
				b.Id = next(64)
			}
			lay(t, d, at, b)
			heads[id] = at
		}
	}
	for id := range count(g) {
		if slices.ContainsFunc(heads[8*id:8*id+8], func(head int) bool { return head != 0 }) || seldom(next, 2) {
			r.Roots[id] = somewhere()
			lay(t, d, r.Roots[id], mapping(id, heads[8*id:8*id+8]...))
		}
	}
	anchor.Write(d, r)
	return heads
}

// anyItems are items of some pages and mapping pages, most of which may lie over these heads.
func anyItems(g api.Geom, heads []int, next func(n int) int) []api.Item {
	var l []api.Item
	for id := next(g.Pages); id < len(heads); id += 1 + next(9) {
		if id >= g.Pages && !seldom(next, 12) {
			break
		}
		x := item(image(id, byte(next(9))))
		switch n := next(6); {
		case n == 0:
			x = alloc(id)
		case n < 3:
			x = free(id)
		case n < 5 && heads[id] != api.NoPage:
			x = item(delta(id, byte(next(9)), heads[id]))
		}
		if heads[id] == api.NoPage && !seldom(next, 4) {
			x = free(id)
		}
		if seldom(next, 60) {
			x = item(delta(id, 9, 1))
		}
		l = append(l, x)
	}
	for id := range count(g) + next(8)/7 {
		if seldom(next, 4) && id < 8 {
			l = append(l, item(mapping(id, heads[min(8*id, len(heads)):min(8*id+8, len(heads))]...)))
		}
	}
	return l
}

// P20.2: devices with pages and groups laid anyhow, right ones and others, held against the second way.
func TestAnyDevice(t *testing.T) {
	next := pick(21)
	told := map[bool]int{}
	behind := map[bool]int{}
	for round := range 3000 {
		g := shapes()[round%len(shapes())]
		d := device(t, total(g))
		heads := anyPages(t, d, g, next)
		s, ok := secondLoad(d)
		told[agrees(t, "pages", d)]++
		if !ok {
			continue
		}
		j, _ := journal.New(d, g, s.At)
		for range 1 + next(4) {
			l := anyItems(g, heads, next)
			p, _ := j.Put(l)
			for i, at := range p {
				switch {
				case l[i].Kind == api.Map:
				case l[i].Kind == api.Alloc:
					heads[l[i].Id] = api.Zeros
				default:
					heads[l[i].Id] = at
				}
			}
		}
		behind[agrees(t, "groups", d)]++
	}
	if told[true] < 400 || told[false] < 200 || behind[true] < 400 || behind[false] < 400 {
		t.Errorf("told: %v, with groups: %v", told, behind)
	}
}

// play is a store as it ought to be, held beside its device: what core does, plainly.
type play struct {
	d     *dev.Dev
	s     recover.State
	pages map[int]api.Page
	next  func(n int) int
}

// copied is the state, apart from what it goes on to.
func (p *play) copied() recover.State {
	s := p.s
	s.Heads, s.Old, s.At.Free = slices.Clone(s.Heads), slices.Clone(s.Old), slices.Clone(s.At.Free)
	return s
}

// chosen are items that may lie over the state, and the pages that they come to.
func (p *play) chosen() ([]api.Item, map[int]api.Page) {
	var l []api.Item
	pages := maps.Clone(p.pages)
	for id := p.next(4); id < len(p.s.Heads); id += 1 + p.next(6) {
		now, is := pages[id]
		k := p.next(31)
		chained, _, _ := second(p.d, p.s.Region.Geom, id, p.s.Heads[id], 3)
		switch n := p.next(7); {
		case !is && len(pages) >= most(p.s.Region.Geom):
		case !is && n < 3:
			l, pages[id] = append(l, alloc(id)), api.Page{}
		case is && n == 0:
			l = append(l, free(id))
			delete(pages, id)
		case is && n < 5 && len(chained) < 3:
			now[k]++
			l, pages[id] = append(l, item(api.Block{Kind: api.Delta, Id: id, Off: k, Bytes: []byte{now[k]}, Prev: p.s.Heads[id]})), now
		default:
			now[k] += 7
			l, pages[id] = append(l, item(api.Block{Kind: api.Image, Id: id, Page: now})), now
		}
	}
	return l, pages
}

// mappings are the mapping pages that differ from what is written, and some more.
func (p *play) mappings() []api.Item {
	var l []api.Item
	for id := range count(p.s.Region.Geom) {
		end := min(8*id+8, len(p.s.Heads))
		if !slices.Equal(p.s.Heads[8*id:end], p.s.Old[8*id:end]) || seldom(p.next, 5) {
			l = append(l, item(mapping(id, p.s.Heads[8*id:end]...)))
		}
	}
	return l
}

// put puts items, and takes them over as they are.
func (p *play) put(j *journal.Journal, l []api.Item) api.Errno {
	at, e := j.Put(l)
	for i, x := range l {
		switch {
		case e != api.OK:
		case x.Kind == api.Map:
			p.s.Region.Roots[x.Id] = at[i]
			copy(p.s.Old[8*x.Id:], x.Block.Heads[:])
		case x.Kind == api.Alloc:
			p.s.Heads[x.Id] = api.Zeros
		default:
			p.s.Heads[x.Id] = at[i]
		}
	}
	p.s.At = j.At()
	return e
}

// holds holds what the device says against the play.
func (p *play) holds(t *testing.T, name string) {
	t.Helper()
	loads(t, name, p.d, p.s)
	var all []int
	for id, head := range p.s.Heads {
		page, is := p.pages[id]
		if !is {
			noChain(t, name, p.d, p.s.Region.Geom, id, head, api.ErrNone)
			continue
		}
		l, _, _ := second(p.d, p.s.Region.Geom, id, head, 3)
		hasChain(t, name, p.d, p.s.Region.Geom, id, head, l, page)
		all = append(all, l...)
	}
	for _, root := range p.s.Region.Roots {
		if root != 0 {
			all = append(all, root)
		}
	}
	places(t, name, p.d, p.s, all, api.OK)
}

// region writes the next region, and says what is free then; of all its places, what is not live.
func (p *play) region(t *testing.T, j *journal.Journal) {
	t.Helper()
	r, at := &p.s.Region, j.At()
	r.Gen, r.Seg, r.Off, r.Seq = r.Gen+1, at.Seg, at.Off, at.Seq
	if e := anchor.Write(p.d, *r); e != api.OK {
		t.Fatalf("region: %d", e)
	}
	live, _ := secondRight(p.d, p.s)
	var open []int
	for seg := range r.Segs {
		if live[seg] == 0 && seg != at.Seg {
			open = append(open, seg)
		}
	}
	j.SetFree(open)
	p.s.At = j.At()
}

// P20.2, P20.3, P20.4: long plays of groups and regions, cut and crashed: what is loaded is what was put last, or, of a Put that was cut, what was ahead of it or all of it.
func TestPlays(t *testing.T) {
	groups, cuts := 0, map[bool]int{}
	for start := range 60 {
		g := shapes()[start%3*2] // with pages that may be allocated
		d := device(t, total(g))
		anchor.Write(d, api.Region{Gen: 1, Geom: g, Seg: start % g.Segs, Seq: 1})
		s, _ := secondLoad(d)
		p := &play{d: d, s: s, pages: map[int]api.Page{}, next: pick(uint32(start))}
		j, _ := journal.New(d, g, s.At)
		for range 60 {
			l, pages := p.chosen()
			was, had := p.copied(), p.pages
			cut := seldom(p.next, 4)
			if cut {
				d.Fail(p.next(group.Size(l) + 1))
			}
			e := p.put(j, l)
			if e == api.OK {
				groups++
				p.pages = pages
			}
			if e == api.ErrSpace {
				break
			}
			if cut {
				keep := make([]byte, 40)
				for i := range keep {
					keep[i] = byte(max(p.next(8), p.next(8), 1))
				}
				d.Crash(keep)
				now, ok := recover.Load(d)
				whole := !sameAt(now.At, was.At)
				cuts[whole]++
				p.s, p.pages = was, had
				if whole {
					w, _ := secondLoad(d)
					p.s, p.pages = w, pages
				}
				if ok != api.OK {
					t.Fatalf("cut: %d", ok)
				}
				p.holds(t, "cut")
				j, _ = journal.New(d, g, p.s.At)
				j.SetSeq(p.s.At.Seq + 64)
			}
			if m := p.mappings(); cut || seldom(p.next, 6) {
				if len(m) > 0 && p.put(j, m) != api.OK {
					break
				}
				p.region(t, j)
			}
			p.holds(t, "put")
		}
	}
	if groups < 500 || cuts[true] < 20 || cuts[false] < 20 {
		t.Errorf("%d groups, cut: %v", groups, cuts)
	}
}
