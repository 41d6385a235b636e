package mappage_test

import (
	"math"
	"slices"
	"testing"

	"silt/api"
	"silt/mappage"
)

func geom(pages, segs, segLen, frames int) api.Geom {
	return api.Geom{Pages: pages, Segs: segs, SegLen: segLen, Frames: frames}
}

// of are geometries of so many pages: the least ones, the greatest ones, and some between.
func of(pages int) []api.Geom {
	return []api.Geom{geom(pages, 6, 24, 2), geom(pages, 16, 32, 16), geom(pages, 8, 24, 4), geom(pages, 11, 29, 7)}
}

// edges are numbers of pages of which the last mapping page has one head, all but one, and all.
func edges() []int { return []int{1, 2, 7, 8, 9, 15, 16, 17, 56, 57, 63, 64} }

// far are numbers that no field may have, though their lowest bits may.
func far() []int {
	return []int{
		math.MinInt, math.MinInt + 4, math.MinInt32, -1 << 16, -1<<16 + 4, -1024, -256, -252, -8, -5, -4, -3, -2, -1,
		1<<16 + 1, 1<<16 + 4, 1 << 31, 1<<31 + 8, 1 << 32, 1<<32 + 1, 1<<32 + 4, 1<<32 + 8, 1<<32 + 24, 1 << 62, math.MaxInt32, math.MaxInt - 1, math.MaxInt,
	}
}

// may are heads that may be, the least places and the greatest, too.
func may() []int {
	return []int{0, 1, 4, 5, 7, 8, 63, 64, 147, 148, 255, 256, 511, 515, 516, 1022, 1023}
}

// mayNot are heads that may not be, the nearest to those that may, too.
func mayNot() []int { return append(far(), 2, 3, 1024, 1025, 2047, 2048, 4096, 65535, 65536) }

// heads are some of n pages, no two neighbours alike, with all that a head may be.
func heads(n int) []int {
	l := make([]int, n)
	for i := range l {
		l[i] = may()[(5*i+n)%len(may())]
	}
	return l
}

// laid are heads as mapping pages: the next eight of them, as long as there are some.
func laid(l []int) []api.Block {
	var blocks []api.Block
	for len(l) > 0 {
		b := api.Block{Kind: 3, Id: len(blocks)}
		n := copy(b.Heads[:], l)
		blocks = append(blocks, b)
		l = l[n:]
	}
	return blocks
}

// alike tells whether blocks are the same in all fields; nil and empty Bytes are one.
func alike(a, b api.Block) bool {
	return a.Kind == b.Kind && a.Id == b.Id && a.Page == b.Page && a.Off == b.Off && string(a.Bytes) == string(b.Bytes) && a.Prev == b.Prev && a.Heads == b.Heads
}

// cuts holds that heads come to their mapping pages, and back.
func cuts(t *testing.T, name string, g api.Geom, l []int) {
	t.Helper()
	want := laid(l)
	b, e := mappage.Cut(g, l)
	if e != api.OK || !slices.EqualFunc(b, want, alike) {
		t.Errorf("%s: Cut %+v, %v: %+v, %v, not %+v", name, g, l, b, e, want)
	}
	joins(t, name, g, b, l)
	joins(t, name, g, want, l)
}

func joins(t *testing.T, name string, g api.Geom, b []api.Block, want []int) {
	t.Helper()
	if l, e := mappage.Join(g, b); e != api.OK || !slices.Equal(l, want) {
		t.Errorf("%s: Join %+v, %+v: %v, %v, not %v", name, g, b, l, e, want)
	}
}

// cutsNot holds that Cut answers ErrArg, and nothing beside it.
func cutsNot(t *testing.T, name string, g api.Geom, l []int) {
	t.Helper()
	if b, e := mappage.Cut(g, l); e != api.ErrArg || len(b) != 0 {
		t.Errorf("%s: Cut %+v, %v: %+v, %v", name, g, l, b, e)
	}
}

// joinsNot holds that Join answers an error, and nothing beside it.
func joinsNot(t *testing.T, name string, g api.Geom, b []api.Block, want api.Errno) {
	t.Helper()
	if l, e := mappage.Join(g, b); e != want || len(l) != 0 {
		t.Errorf("%s: Join %+v, %+v: %v, %v, not %v", name, g, b, l, e, want)
	}
}

// P10.1: mapping pages written out.
func TestWrittenOut(t *testing.T) {
	for i, x := range []struct {
		pages int
		l     []int
		b     []api.Block
	}{
		{1, []int{4}, []api.Block{{Kind: 3, Heads: [8]int{4}}}},
		{1, []int{0}, []api.Block{{Kind: 3}}},
		{7, []int{1, 4, 1023, 0, 9, 8, 7}, []api.Block{{Kind: 3, Heads: [8]int{1, 4, 1023, 0, 9, 8, 7, 0}}}},
		{8, []int{1, 4, 1023, 0, 9, 8, 7, 6}, []api.Block{{Kind: 3, Heads: [8]int{1, 4, 1023, 0, 9, 8, 7, 6}}}},
		{9, []int{1, 4, 1023, 0, 9, 8, 7, 6, 5}, []api.Block{{Kind: 3, Heads: [8]int{1, 4, 1023, 0, 9, 8, 7, 6}}, {Kind: 3, Id: 1, Heads: [8]int{5}}}},
		{16, []int{10, 11, 12, 13, 14, 15, 16, 17, 20, 21, 22, 23, 24, 25, 26, 27},
			[]api.Block{{Kind: 3, Heads: [8]int{10, 11, 12, 13, 14, 15, 16, 17}}, {Kind: 3, Id: 1, Heads: [8]int{20, 21, 22, 23, 24, 25, 26, 27}}}},
		{18, []int{7: 1, 8: 1023, 16: 4, 17: 1}, []api.Block{{Kind: 3, Heads: [8]int{7: 1}}, {Kind: 3, Id: 1, Heads: [8]int{1023}}, {Kind: 3, Id: 2, Heads: [8]int{4, 1}}}},
		{63, []int{62: 4}, []api.Block{{Kind: 3}, {Kind: 3, Id: 1}, {Kind: 3, Id: 2}, {Kind: 3, Id: 3}, {Kind: 3, Id: 4}, {Kind: 3, Id: 5}, {Kind: 3, Id: 6}, {Kind: 3, Id: 7, Heads: [8]int{6: 4}}}},
		{64, []int{63: 4}, []api.Block{{Kind: 3}, {Kind: 3, Id: 1}, {Kind: 3, Id: 2}, {Kind: 3, Id: 3}, {Kind: 3, Id: 4}, {Kind: 3, Id: 5}, {Kind: 3, Id: 6}, {Kind: 3, Id: 7, Heads: [8]int{7: 4}}}},
	} {
		g := geom(x.pages, 8, 24, 4)
		if b, e := mappage.Cut(g, x.l); e != api.OK || !slices.EqualFunc(b, x.b, alike) {
			t.Errorf("%d: %+v, %v, not %+v", i, b, e, x.b)
		}
		joins(t, "written out", g, x.b, x.l)
	}
}

// P10.1, P10.2: each number of pages, in geometries of all kinds.
func TestCutAndJoin(t *testing.T) {
	for pages := 1; pages <= 64; pages++ {
		for _, g := range of(pages) {
			cuts(t, "ordinary", g, heads(pages))
			for _, h := range may() {
				cuts(t, "all alike", g, slices.Repeat([]int{h}, pages))
			}
		}
	}
}

// P10.1, P10.2: each head that may be, in each page's place, beside others that are NoPage and that are not.
func TestHeadsThatMayBe(t *testing.T) {
	for _, pages := range edges() {
		g := geom(pages, 6, 24, 2)
		for page := range pages {
			for _, h := range may() {
				l := make([]int, pages)
				l[page] = h
				cuts(t, "a head alone", g, l)
				l = heads(pages)
				l[page] = h
				cuts(t, "a head among others", g, l)
			}
		}
	}
	for h := range 1024 {
		if h != 2 && h != 3 {
			cuts(t, "all heads", geom(10, 6, 24, 2), []int{h, 4, 4, 4, 4, 4, 4, 4, 4, h})
		}
	}
}

// parts are a geometry's, each with its least and its most as the chapter of plan and api have them.
func parts() []struct {
	name        string
	least, most int
	set         func(g *api.Geom, n int)
} {
	return []struct {
		name        string
		least, most int
		set         func(g *api.Geom, n int)
	}{
		{"Pages", 1, 64, func(g *api.Geom, n int) { g.Pages = n }},
		{"Segs", 6, 16, func(g *api.Geom, n int) { g.Segs = n }},
		{"SegLen", 24, 32, func(g *api.Geom, n int) { g.SegLen = n }},
		{"Frames", 2, 16, func(g *api.Geom, n int) { g.Frames = n }},
	}
}

// wrong are geometries with one number that may not be, and with several.
func wrong() []api.Geom {
	l := []api.Geom{{}, geom(0, 5, 23, 1), geom(65, 17, 33, 17), geom(-1, -6, -24, -2)}
	for _, pages := range edges() {
		for _, g := range of(pages) {
			for _, p := range parts() {
				for _, n := range append(far(), 0, p.least-1, p.most+1) {
					if n < p.least || n > p.most {
						bad := g
						p.set(&bad, n)
						l = append(l, bad)
					}
				}
			}
		}
	}
	return l
}

// P10.1: a geometry that may not be is ErrArg, whatever the list is: as many as its Pages, none, or one that is wrong itself.
func TestGeometries(t *testing.T) {
	for _, g := range wrong() {
		pages := g.Pages
		if pages < 0 || pages > 100 {
			pages = 16
		}
		l := heads(pages)
		cutsNot(t, "geometry alone", g, l)
		cutsNot(t, "geometry, and no heads", g, nil)
		cutsNot(t, "geometry, and a head", g, slices.Repeat([]int{2}, pages))
		joinsNot(t, "geometry alone", g, laid(l), api.ErrArg)
		joinsNot(t, "geometry, and no mapping pages", g, nil, api.ErrArg)
		joinsNot(t, "geometry, and no mapping pages", g, []api.Block{}, api.ErrArg)
		joinsNot(t, "geometry, and another kind", g, []api.Block{{Kind: api.Image}}, api.ErrArg)
		joinsNot(t, "geometry, and a head", g, laid(slices.Repeat([]int{2}, pages)), api.ErrArg)
		joinsNot(t, "geometry, and one too many", g, append(laid(l), api.Block{Kind: api.Map}), api.ErrArg)
	}
	for pages := -3; pages <= 100; pages++ {
		l := heads(max(0, pages))
		if pages >= 1 && pages <= 64 {
			cuts(t, "Pages", geom(pages, 6, 24, 2), l)
		} else {
			cutsNot(t, "Pages", geom(pages, 6, 24, 2), l)
			joinsNot(t, "Pages", geom(pages, 6, 24, 2), laid(l), api.ErrArg)
		}
	}
}

// P10.1: as many heads as pages, and no others.
func TestNumbersOfHeads(t *testing.T) {
	for pages := 1; pages <= 64; pages++ {
		for _, g := range of(pages) {
			for n := range 100 {
				if n == pages {
					continue
				}
				cutsNot(t, "too few, or too many", g, heads(n))
				cutsNot(t, "too few, or too many, all NoPage", g, make([]int, n))
			}
			cutsNot(t, "none", g, nil)
			cutsNot(t, "one too many, and it may not be", g, append(heads(pages), 2))
			cutsNot(t, "one too few, and one may not be", g, append(heads(pages), 2)[2:])
			cutsNot(t, "very many", g, make([]int, 1<<16+pages))
		}
	}
}

// P10.1: one head that may not be, alone, or in each place.
func TestHeadsThatMayNotBe(t *testing.T) {
	for _, pages := range edges() {
		g := geom(pages, 16, 32, 16)
		for page := range pages {
			for _, h := range mayNot() {
				l := heads(pages)
				l[page] = h
				cutsNot(t, "a head among others", g, l)
				l = make([]int, pages)
				l[page] = h
				cutsNot(t, "a head among NoPages", g, l)
			}
		}
		for _, h := range mayNot() {
			cutsNot(t, "all", g, slices.Repeat([]int{h}, pages))
		}
	}
}

// broken holds that Join tells ErrForm of mapping pages, each of them changed on its own.
func broken(t *testing.T, name string, change func(b *api.Block)) {
	t.Helper()
	for _, pages := range edges() {
		for i := range laid(heads(pages)) {
			b := laid(heads(pages))
			change(&b[i])
			joinsNot(t, name, geom(pages, 8, 24, 4), b, api.ErrForm)
			b = laid(make([]int, pages))
			change(&b[i])
			joinsNot(t, name, geom(pages, 8, 24, 4), b, api.ErrForm)
		}
	}
}

// P10.1: as many mapping pages as there are, and no others.
func TestNumbersOfMappingPages(t *testing.T) {
	for pages := 1; pages <= 64; pages++ {
		for _, g := range of(pages) {
			all := laid(make([]int, 80))
			for n := range len(all) + 1 {
				if n == len(laid(heads(pages))) {
					joins(t, "just as many", g, all[:n], make([]int, pages))
				} else {
					joinsNot(t, "too few, or too many", g, all[:n], api.ErrForm)
				}
			}
			joinsNot(t, "none", g, nil, api.ErrForm)
			joinsNot(t, "the first too few", g, laid(heads(pages))[1:], api.ErrForm)
			joinsNot(t, "one too many", g, append(laid(heads(pages)), api.Block{}), api.ErrForm)
			joinsNot(t, "one too many", g, append(laid(heads(pages)), laid(heads(pages))...), api.ErrForm)
			joinsNot(t, "one too many, ahead", g, append([]api.Block{{Kind: api.Map}}, laid(heads(pages))...), api.ErrForm)
			joinsNot(t, "very many", g, make([]api.Block, 1<<10), api.ErrForm)
		}
	}
}

// P10.1: Ids rise from 0 on.
func TestIds(t *testing.T) {
	for _, pages := range edges() {
		g := geom(pages, 8, 24, 4)
		good := laid(heads(pages))
		for i := range good {
			for _, id := range append(far(), 0, 1, 2, 3, 4, 5, 6, 7, 8, 9, 63, 64, 255, 256, 256+i) {
				b := slices.Clone(good)
				if b[i].Id = id; id == i {
					joins(t, "its own Id", g, b, heads(pages))
				} else {
					joinsNot(t, "another Id", g, b, api.ErrForm)
				}
			}
			for j := range i {
				b := slices.Clone(good)
				b[i], b[j] = b[j], b[i]
				joinsNot(t, "turned", g, b, api.ErrForm)
				b = slices.Clone(good)
				b[i] = b[j]
				joinsNot(t, "one twice", g, b, api.ErrForm)
				b = slices.Clone(good)
				b[j] = b[i]
				joinsNot(t, "one twice", g, b, api.ErrForm)
			}
		}
		if len(good) > 1 {
			b := slices.Clone(good)
			slices.Reverse(b)
			joinsNot(t, "all turned", g, b, api.ErrForm)
			for i := range b {
				b[i].Id = i + 1
			}
			joinsNot(t, "from 1 on", g, b, api.ErrForm)
		}
	}
}

// P10.1: a block of another kind is no mapping page, though it may be itself.
func TestKinds(t *testing.T) {
	for _, kind := range append(far(), 0, 1, 2, 4, 5, 6, 255, 256, 259, 1<<16+3, 1<<32+3) {
		broken(t, "another kind", func(b *api.Block) { b.Kind = kind })
	}
	broken(t, "an image", func(b *api.Block) { *b = api.Block{Kind: api.Image, Id: b.Id} })
	broken(t, "an image", func(b *api.Block) { *b = api.Block{Kind: api.Image, Id: b.Id, Page: api.Page{4, 5}} })
	broken(t, "a delta", func(b *api.Block) { *b = api.Block{Kind: api.Delta, Id: b.Id, Bytes: []byte{4}, Prev: 5} })
	broken(t, "a mark", func(b *api.Block) { *b = api.Block{Kind: api.Free, Id: b.Id} })
	broken(t, "nothing", func(b *api.Block) { *b = api.Block{} })
}

// P10.1: what a mapping page does not name is zero; nil Bytes and empty ones are one.
func TestPartsNotNamed(t *testing.T) {
	for i := range api.PageSize {
		for _, x := range []byte{1, 128, 255} {
			broken(t, "Page", func(b *api.Block) { b.Page[i] = x })
		}
	}
	for _, n := range append(far(), 1, 2, 3, 4, 31, 32, 256, 1023, 1024) {
		broken(t, "Off", func(b *api.Block) { b.Off = n })
		broken(t, "Prev", func(b *api.Block) { b.Prev = n })
		broken(t, "Off and Prev", func(b *api.Block) { b.Off, b.Prev = n, -n })
	}
	for _, l := range [][]byte{{0}, {1}, {0, 0}, make([]byte, 16), make([]byte, 17), make([]byte, 256), make([]byte, 1<<16)} {
		broken(t, "Bytes", func(b *api.Block) { b.Bytes = l })
	}
	for _, pages := range edges() {
		b := laid(heads(pages))
		for i := range b {
			b[i].Bytes = []byte{7, 8}[:0]
		}
		joins(t, "no Bytes", geom(pages, 8, 24, 4), b, heads(pages))
	}
}

// P10.1: a mapping page's head that may not be, in each place, be there a page or not.
func TestMappedHeads(t *testing.T) {
	for at := range api.MapLen {
		for _, h := range mayNot() {
			broken(t, "a head", func(b *api.Block) { b.Heads[at] = h })
		}
	}
}

// P10.1: behind the last page there is NoPage alone.
func TestBehindTheLastPage(t *testing.T) {
	for pages := 1; pages <= 64; pages++ {
		for _, g := range of(pages) {
			last := (pages - 1) / 8
			for page := 8 * last; page < 8*last+8; page++ {
				for _, h := range may() {
					b, l := laid(heads(pages)), heads(pages)
					b[last].Heads[page-8*last] = h
					switch {
					case page < pages:
						l[page] = h
						joins(t, "a page", g, b, l)
					case h == api.NoPage:
						joins(t, "no page", g, b, l)
					default:
						joinsNot(t, "behind the last page", g, b, api.ErrForm)
					}
				}
			}
		}
	}
}

// P10.1: mapping pages of another number of pages join as far as they say the same.
func TestOtherNumbersOfPages(t *testing.T) {
	for from := 1; from <= 64; from++ {
		b := laid(slices.Repeat([]int{9}, from))
		for pages := 1; pages <= 64; pages++ {
			g := geom(pages, 8, 24, 4)
			if len(laid(make([]int, pages))) != len(b) || pages < from {
				joinsNot(t, "fewer pages, or another number of mapping pages", g, b, api.ErrForm)
				continue
			}
			l := make([]int, pages)
			for page := range from {
				l[page] = 9
			}
			joins(t, "more pages", g, b, l)
		}
	}
}

// P10.1: Of, at its edges, and of numbers that are no page's.
func TestOf(t *testing.T) {
	for _, x := range [][3]int{{0, 0, 0}, {1, 0, 1}, {7, 0, 7}, {8, 1, 0}, {9, 1, 1}, {15, 1, 7}, {16, 2, 0}, {55, 6, 7}, {56, 7, 0}, {62, 7, 6}, {63, 7, 7}} {
		if id, at := mappage.Of(x[0]); id != x[1] || at != x[2] {
			t.Errorf("Of %d: %d, %d, not %d, %d", x[0], id, at, x[1], x[2])
		}
	}
	for _, page := range append(far(), -64, -63, -9, -7, 64, 65, 71, 72, 127, 128, 256, 512) {
		if id, at := mappage.Of(page); id != -1 || at != -1 {
			t.Errorf("Of %d: %d, %d", page, id, at)
		}
	}
}

// P10.1: where Of tells, Cut has the page's head, and nothing else.
func TestOfCut(t *testing.T) {
	for pages := 1; pages <= 64; pages++ {
		for page := range pages {
			l := make([]int, pages)
			l[page] = 77
			b, e := mappage.Cut(geom(pages, 6, 24, 2), l)
			id, at := mappage.Of(page)
			if e != api.OK || id < 0 || id >= len(b) || at < 0 || at >= 8 || b[id].Heads[at] != 77 {
				t.Errorf("page %d of %d: %d, %d of %+v, %v", page, pages, id, at, b, e)
			}
		}
	}
}

// spare are all of a list's room, and what is in it.
func spare[T any](l []T) []T { return l[:cap(l)] }

// Rule 2: no call changes what it is given, nor its spare room.
func TestNothingChanged(t *testing.T) {
	for pages := 1; pages <= 64; pages++ {
		room := append(heads(pages), 2, -7, 1024, 9, 1)
		was := slices.Clone(room)
		for n := range room {
			mappage.Cut(geom(pages, 8, 24, 4), room[:n])
			mappage.Cut(geom(n, 8, 24, 4), room[:n])
			mappage.Cut(api.Geom{}, room[:n])
		}
		if !slices.Equal(room, was) {
			t.Errorf("%d pages: %v, not %v", pages, room, was)
		}

		texts := []byte{1, 2, 3}
		blocks := append(laid(heads(pages)), api.Block{Kind: api.Map, Id: 8, Heads: [8]int{2}}, api.Block{Kind: -1, Off: 5, Bytes: texts})
		blocks[0].Bytes = texts[:0]
		before := slices.Clone(blocks)
		for n := range len(blocks) + 1 {
			mappage.Join(geom(pages, 8, 24, 4), blocks[:n])
			mappage.Join(api.Geom{}, blocks[:n])
		}
		if !slices.EqualFunc(blocks, before, alike) || string(spare(blocks[0].Bytes)) != "\x01\x02\x03" {
			t.Errorf("%d pages: %+v, not %+v", pages, blocks, before)
		}
	}
}

// Rule 2: what is told shares no memory, spare room too, with what is handed in, nor with another answer.
func TestNewMemory(t *testing.T) {
	for _, pages := range edges() {
		g, l := geom(pages, 8, 24, 4), heads(pages)
		given := slices.Clone(l)
		first, _ := mappage.Cut(g, given)
		second, _ := mappage.Cut(g, given)
		for i := range spare(first) {
			spare(first)[i] = api.Block{Kind: -5, Id: -6, Prev: -7, Heads: [8]int{-8, -9}}
		}
		if !slices.EqualFunc(second, laid(l), alike) || !slices.Equal(given, l) {
			t.Errorf("%d pages: shared: %+v, %v", pages, second, given)
		}
		for i := range spare(given) {
			spare(given)[i] = -5000
		}
		if !slices.EqualFunc(second, laid(l), alike) {
			t.Errorf("%d pages: shared: %+v", pages, second)
		}

		blocks := laid(l)
		one, _ := mappage.Join(g, blocks)
		two, _ := mappage.Join(g, blocks)
		for i := range spare(one) {
			spare(one)[i] = -5000
		}
		if !slices.Equal(two, l) || !slices.EqualFunc(blocks, laid(l), alike) {
			t.Errorf("%d pages: shared: %v, %+v", pages, two, blocks)
		}
		clear(spare(blocks))
		if !slices.Equal(two, l) {
			t.Errorf("%d pages: shared: %v", pages, two)
		}
	}
}

// Rule 4: what was asked before changes no answer.
func TestAnswersStay(t *testing.T) {
	g := geom(12, 8, 24, 4)
	for range 3 {
		cuts(t, "ordinary", g, heads(12))
		cutsNot(t, "no heads", g, nil)
		cuts(t, "other pages", geom(64, 16, 32, 16), heads(64))
		cutsNot(t, "no geometry", api.Geom{}, heads(12))
		joinsNot(t, "no geometry", api.Geom{}, laid(heads(12)), api.ErrArg)
		joinsNot(t, "no mapping pages", g, nil, api.ErrForm)
		cuts(t, "one page", geom(1, 6, 24, 2), heads(1))
	}
}
