package region_test

import (
	"math"
	"testing"

	"silt/api"
	"silt/block"
	"silt/region"
	"silt/summary"
)

func geom(pages, segs, segLen, frames int) api.Geom {
	return api.Geom{Pages: pages, Segs: segs, SegLen: segLen, Frames: frames}
}

// geoms are geometries that may be: the least, the greatest, and some between, of each number of mapping pages.
func geoms() []api.Geom {
	return []api.Geom{
		geom(1, 6, 24, 2), geom(64, 16, 32, 16), geom(16, 8, 24, 4), geom(17, 8, 25, 4), geom(8, 16, 24, 16), geom(9, 6, 32, 2),
		geom(25, 7, 31, 3), geom(40, 11, 29, 7), geom(41, 12, 28, 9), geom(56, 15, 26, 15), geom(57, 13, 30, 12),
	}
}

// numbers are generations, and sequence numbers, each byte of them told from the others.
func numbers() []uint32 {
	return []uint32{0, 1, 255, 256, 0x01020304, 0x10000, 1 << 24, 1<<31 - 1, 1 << 31, math.MaxUint32 - 1, math.MaxUint32}
}

// far are numbers that no field may have, though their lowest bits may.
func far() []int {
	return []int{
		math.MinInt, math.MinInt + 4, math.MinInt + 24, math.MinInt32, -1 << 16, -1<<16 + 4, -1<<16 + 24, -256, -256 + 6, -256 + 24, -24, -4, -3, -2, -1,
		1<<16 + 4, 1<<16 + 24, 1<<16 + 30, 1<<31 + 24, 1<<32 + 2, 1<<32 + 4, 1<<32 + 6, 1<<32 + 24, 1<<62 + 24, math.MaxInt32, math.MaxInt - 1, math.MaxInt,
	}
}

// maps is how many mapping pages a geometry has.
func maps(g api.Geom) int {
	n := 0
	for pages := g.Pages; pages > 0; pages -= 8 {
		n++
	}
	return n
}

// behind is the first place behind a geometry's last segment.
func behind(g api.Geom) int { return 4 + g.Segs*g.SegLen }

// plain is a region whose numbers are the least ones that may be.
func plain(g api.Geom) api.Region { return api.Region{Geom: g} }

// full is a region with all fields set, no two of them alike where they need not be.
func full(g api.Geom) api.Region {
	r := api.Region{Gen: 0x51627384, Geom: g, Seg: g.Segs - 1, Off: g.SegLen, Seq: 0x95a6b7c8}
	for i := range maps(g) {
		r.Roots[i] = behind(g) - 1 - 7*i
	}
	return r
}

// laid are the sectors of a region, one byte behind the other, be it one that may be or not.
func laid(r api.Region) (l [2]api.Sector) {
	at := [2]int{}
	put := func(which, n, bytes int) {
		for range bytes {
			l[which][at[which]] = byte(n % 256)
			at[which]++
			n /= 256
		}
	}
	for which := range 2 {
		put(which, 0x52, 1)
		put(which, which, 1)
		put(which, int(r.Gen), 4)
	}
	for _, n := range []int{r.Pages, r.Segs, r.SegLen, r.Frames, r.Seg, r.Off} {
		put(0, n, 1)
	}
	put(0, int(r.Seq), 4)
	for _, n := range r.Roots {
		put(1, n, 2)
	}
	return l
}

// may holds that a region may be, and that its sectors say it.
func may(t *testing.T, name string, r api.Region) {
	t.Helper()
	if !region.Good(r) {
		t.Errorf("%s: %+v may be", name, r)
	}
	l, e := region.Encode(r)
	if want := laid(r); e != api.OK || l != want {
		t.Errorf("%s: Encode %+v: %v, %v, not %v", name, r, l, e, want)
	}
	if back, e := region.Decode(laid(r)); e != api.OK || back != r {
		t.Errorf("%s: Decode of the sectors of %+v: %+v, %v", name, r, back, e)
	}
}

// mayNot holds that a region may not be.
func mayNot(t *testing.T, name string, r api.Region) {
	t.Helper()
	if region.Good(r) {
		t.Errorf("%s: %+v may not be", name, r)
	}
	if l, e := region.Encode(r); e != api.ErrForm || l != [2]api.Sector{} {
		t.Errorf("%s: Encode %+v: %v, %v", name, r, l, e)
	}
}

// none holds that l are no region's sectors.
func none(t *testing.T, name string, l [2]api.Sector) {
	t.Helper()
	if r, e := region.Decode(l); e != api.ErrForm || r != (api.Region{}) {
		t.Errorf("%s: Decode %v: %+v, %v", name, l, r, e)
	}
}

// eachWay asks whether a region may be, and of one that may not whether its sectors, too, are none's, if its numbers have room there.
func eachWay(t *testing.T, name string, r api.Region, good bool) {
	t.Helper()
	if good {
		may(t, name, r)
		return
	}
	mayNot(t, name, r)
	if hasRoom(r) {
		none(t, name, laid(r))
	}
}

// hasRoom tells whether each number of a region is one of as many bytes as the sectors have for it.
func hasRoom(r api.Region) bool {
	for _, n := range []int{r.Pages, r.Segs, r.SegLen, r.Frames, r.Seg, r.Off} {
		if n < 0 || n > 255 {
			return false
		}
	}
	for _, n := range r.Roots {
		if n < 0 || n > 65535 {
			return false
		}
	}
	return true
}

// P6.1: sectors written out byte by byte.
func TestSectors(t *testing.T) {
	for _, c := range []struct {
		name string
		r    api.Region
		l    [2]api.Sector
	}{
		{"the least", plain(geom(1, 6, 24, 2)),
			[2]api.Sector{{0x52, 0, 0, 0, 0, 0, 1, 6, 24, 2}, {0x52, 1}}},
		{"the greatest", api.Region{Gen: math.MaxUint32, Geom: geom(64, 16, 32, 16), Seg: 15, Off: 32, Seq: math.MaxUint32, Roots: [8]int{515, 515, 515, 515, 515, 515, 515, 515}},
			[2]api.Sector{{0x52, 0, 255, 255, 255, 255, 64, 16, 32, 16, 15, 32, 255, 255, 255, 255}, {0x52, 1, 255, 255, 255, 255, 3, 2, 3, 2, 3, 2, 3, 2, 3, 2, 3, 2, 3, 2, 3, 2}}},
		{"all told apart", api.Region{Gen: 0x14131211, Geom: geom(33, 9, 27, 8), Seg: 7, Off: 22, Seq: 0x24232221, Roots: [8]int{0x45, 0xe6, 0x4, 0xf6, 0x55}},
			[2]api.Sector{{0x52, 0, 0x11, 0x12, 0x13, 0x14, 33, 9, 27, 8, 7, 22, 0x21, 0x22, 0x23, 0x24}, {0x52, 1, 0x11, 0x12, 0x13, 0x14, 0x45, 0, 0xe6, 0, 4, 0, 0xf6, 0, 0x55}}},
		{"roots of two bytes", api.Region{Gen: 5, Geom: geom(64, 16, 32, 16), Seg: 3, Seq: 6, Roots: [8]int{0x101, 0x201, 0x102, 0x1ff, 0x100, 0x200, 0xff, 0}},
			[2]api.Sector{{0x52, 0, 5, 0, 0, 0, 64, 16, 32, 16, 3, 0, 6}, {0x52, 1, 5, 0, 0, 0, 1, 1, 1, 2, 2, 1, 255, 1, 0, 1, 0, 2, 255, 0, 0, 0}}},
	} {
		if l, e := region.Encode(c.r); e != api.OK || l != c.l {
			t.Errorf("%s: %v, %v, not %v", c.name, l, e, c.l)
		}
		if r, e := region.Decode(c.l); e != api.OK || r != c.r {
			t.Errorf("%s: %+v, %v, not %+v", c.name, r, e, c.r)
		}
	}
}

// P6.1, P6.2: ordinary regions of several geometries.
func TestOrdinary(t *testing.T) {
	for _, g := range geoms() {
		may(t, "plain", plain(g))
		may(t, "full", full(g))
		for seg := range g.Segs {
			for off := 0; off <= g.SegLen; off++ {
				r := full(g)
				r.Seg, r.Off = seg, off
				may(t, "where it goes on", r)
			}
		}
	}
}

// parts are a geometry's, each with its least and its most as the chapter of plan and api have them.
func parts() []struct {
	name        string
	least, most int
	set         func(r *api.Region, n int)
} {
	return []struct {
		name        string
		least, most int
		set         func(r *api.Region, n int)
	}{
		{"Pages", 1, 64, func(r *api.Region, n int) { r.Pages = n }},
		{"Segs", 6, 16, func(r *api.Region, n int) { r.Segs = n }},
		{"SegLen", 24, 32, func(r *api.Region, n int) { r.SegLen = n }},
		{"Frames", 2, 16, func(r *api.Region, n int) { r.Frames = n }},
	}
}

// P6.1: the geometry, one below and one above in each of its numbers.
func TestGeometries(t *testing.T) {
	for _, g := range geoms() {
		for _, p := range parts() {
			for n := -3; n <= 300; n++ {
				r := plain(g)
				r.Gen, r.Seq = 8, 9
				p.set(&r, n)
				eachWay(t, p.name, r, n >= p.least && n <= p.most)
			}
			for _, n := range far() {
				r := plain(g)
				if p.set(&r, n); n < p.least || n > p.most {
					mayNot(t, p.name, r)
				}
			}
		}
	}
	for _, g := range []api.Geom{{}, geom(0, 5, 23, 1), geom(65, 17, 33, 17), geom(-1, -6, -24, -2)} {
		mayNot(t, "no geometry", plain(g))
		mayNot(t, "no geometry", api.Region{Gen: 1, Geom: g, Seq: 1, Off: 1})
	}
	mayNot(t, "no region", api.Region{})
}

// P6.1: Seg, from 0 to Segs - 1.
func TestSegs(t *testing.T) {
	for segs := 6; segs <= 16; segs++ {
		for _, r := range []api.Region{plain(geom(16, segs, 24, 2)), full(geom(64, segs, 32, 16))} {
			for seg := -3; seg <= 300; seg++ {
				r.Seg = seg
				eachWay(t, "Seg", r, seg >= 0 && seg < segs)
			}
			for _, seg := range far() {
				r.Seg = seg
				mayNot(t, "Seg", r)
			}
		}
	}
}

// P6.1: Off, from 0 to SegLen.
func TestOffs(t *testing.T) {
	for segLen := 24; segLen <= 32; segLen++ {
		for _, r := range []api.Region{plain(geom(16, 6, segLen, 2)), full(geom(64, 16, segLen, 16))} {
			for off := -3; off <= 300; off++ {
				r.Off = off
				eachWay(t, "Off", r, off >= 0 && off <= segLen)
			}
			for _, off := range far() {
				r.Off = off
				mayNot(t, "Off", r)
			}
		}
	}
}

// P6.1: each Root of the first Maps is 0, or a place in a segment; the others are 0.
func TestRoots(t *testing.T) {
	for _, g := range geoms() {
		for i := range 8 {
			for _, r := range []api.Region{plain(g), full(g)} {
				for root := -10; root <= behind(g)+300; root++ {
					r.Roots[i] = root
					eachWay(t, "a root", r, root == 0 || i < maps(g) && root >= 4 && root < behind(g))
				}
				for _, root := range append(far(), 1023, 1024, 1<<15, 1<<16-1, 1<<16, 1<<16+515, 1<<17+4) {
					r.Roots[i] = root
					eachWay(t, "a far root", r, false)
				}
			}
		}
	}
}

// P6.1: the first and the last sector of each segment are places that a root may be, whatever the other roots are.
func TestRootsOfSegments(t *testing.T) {
	for _, g := range geoms() {
		for s := range g.Segs {
			r := full(g)
			for i := range maps(g) {
				r.Roots[i] = 4 + s*g.SegLen
				may(t, "the first sector of a segment", r)
				r.Roots[i] += g.SegLen - 1
				may(t, "the last sector of a segment", r)
			}
			for i := maps(g); i < 8; i++ {
				bad := r
				bad.Roots[i] = 4 + s*g.SegLen
				mayNot(t, "behind the mapping pages", bad)
				none(t, "behind the mapping pages", laid(bad))
			}
		}
	}
}

// P6.1: how many roots there may be, by how many pages.
func TestRootsOfPages(t *testing.T) {
	for pages := 1; pages <= 64; pages++ {
		for i := range 8 {
			r := plain(geom(pages, 6, 24, 2))
			r.Roots[i] = 4
			eachWay(t, "a root of some pages", r, 8*i < pages)
		}
	}
}

// P6.1, P6.2: the generation and the number, whatever they are.
func TestNumbers(t *testing.T) {
	for _, g := range geoms() {
		for _, gen := range numbers() {
			for _, seq := range numbers() {
				r := full(g)
				r.Gen, r.Seq = gen, seq
				may(t, "numbers", r)
				r = plain(g)
				r.Gen, r.Seq = gen, seq
				may(t, "numbers", r)
			}
		}
	}
}

// P6.1: zeros are no region's, nor is what is one's in one sector alone.
func TestZeros(t *testing.T) {
	none(t, "zeros", [2]api.Sector{})
	none(t, "first bytes alone", [2]api.Sector{{0x52}, {0x52, 1}})
	ones := api.Sector{}
	for i := range ones {
		ones[i] = 255
	}
	none(t, "all ones", [2]api.Sector{ones, ones})
	for _, g := range geoms() {
		for _, r := range []api.Region{plain(g), full(g)} {
			l := laid(r)
			none(t, "the first one alone", [2]api.Sector{l[0]})
			none(t, "the second one alone", [2]api.Sector{1: l[1]})
			none(t, "the first one in the second one's place", [2]api.Sector{1: l[0]})
			none(t, "the second one in the first one's place", [2]api.Sector{l[1]})
			none(t, "the first one twice", [2]api.Sector{l[0], l[0]})
			none(t, "the second one twice", [2]api.Sector{l[1], l[1]})
			none(t, "turned round", [2]api.Sector{l[1], l[0]})
		}
	}
}

// P6.2: sectors of two generations are no region's, whatever else they have in common.
func TestGenerations(t *testing.T) {
	for _, g := range geoms() {
		for _, r := range []api.Region{plain(g), full(g)} {
			for _, a := range numbers() {
				for _, b := range append(numbers(), a+1, a-1, a^1<<7, a^1<<15, a^1<<23, a^1<<31) {
					one, two := r, r
					one.Gen, two.Gen = a, b
					l, m := laid(one), laid(two)
					if a == b {
						may(t, "one generation", one)
						continue
					}
					none(t, "two generations", [2]api.Sector{l[0], m[1]})
					none(t, "two generations", [2]api.Sector{m[0], l[1]})
				}
			}
		}
	}
}

// P6.2: of two regions of one generation and geometry, the first one's first sector and the second one's second are a region's: it has the fields of both.
func TestOneGeneration(t *testing.T) {
	g := geom(20, 8, 24, 5)
	one, two := full(g), plain(g)
	two.Gen = one.Gen
	l, m := laid(one), laid(two)
	want := one
	want.Roots = two.Roots
	if r, e := region.Decode([2]api.Sector{l[0], m[1]}); e != api.OK || r != want {
		t.Errorf("%+v, %v, not %+v", r, e, want)
	}
	want = two
	want.Roots = one.Roots
	if r, e := region.Decode([2]api.Sector{m[0], l[1]}); e != api.OK || r != want {
		t.Errorf("%+v, %v, not %+v", r, e, want)
	}
}

// P6.1: the first byte and the sector's number, of both, are those alone that the chapter tells.
func TestFirstBytes(t *testing.T) {
	for _, g := range geoms() {
		for _, r := range []api.Region{plain(g), full(g)} {
			for which := range 2 {
				for n := range 256 {
					l := laid(r)
					if l[which][0] = byte(n); n != 0x52 {
						none(t, "a first byte", l)
					}
					l = laid(r)
					if l[which][1] = byte(n); n != which {
						none(t, "a sector's number", l)
					}
					if l = laid(r); n != 0x52 {
						l[0][0], l[1][0] = byte(n), byte(n)
						none(t, "both first bytes", l)
					}
					if l = laid(r); n != 0 {
						l[0][1], l[1][1] = byte(n), byte(n+1)
						none(t, "both numbers", l)
					}
				}
			}
		}
	}
}

// P6.1: sectors with a byte set where zeros belong, at each such place of both.
func TestZerosBelong(t *testing.T) {
	for _, g := range geoms() {
		for _, r := range []api.Region{plain(g), full(g)} {
			may(t, "ahead of it", r)
			for which, at := range []int{16, 6 + 2*maps(g)} {
				for ; at < 64; at++ {
					for bit := range 8 {
						l := laid(r)
						l[which][at] = 1 << bit
						none(t, "a byte among zeros", l)
					}
				}
			}
		}
	}
}

// P6.1: blocks' and summaries' sectors are no region's.
func TestOtherSectors(t *testing.T) {
	l := laid(full(geom(16, 8, 24, 4)))
	var others []api.Sector
	for _, b := range []api.Block{
		{Kind: api.Image, Id: 3, Page: api.Page{16, 8, 24, 4}},
		{Kind: api.Image},
		{Kind: api.Delta, Id: 3, Off: 1, Bytes: []byte{1}, Prev: api.Zeros},
		{Kind: api.Map, Id: 3, Heads: [8]int{1, 257, 4}},
	} {
		for _, seq := range numbers() {
			s, e := block.Encode(b, seq)
			if e != api.OK {
				t.Fatalf("block.Encode %+v: %v", b, e)
			}
			others = append(others, s)
		}
	}
	for _, more := range []bool{false, true} {
		for _, seq := range numbers() {
			s, e := summary.Encode(summary.Summary{Seq: seq, More: more, Marks: []api.Mark{{Kind: api.Image, Id: 5}}})
			if e != api.OK {
				t.Fatalf("summary.Encode: %v", e)
			}
			others = append(others, s)
		}
	}
	for _, s := range others {
		none(t, "others", [2]api.Sector{s, s})
		none(t, "another first one", [2]api.Sector{s, l[1]})
		none(t, "another second one", [2]api.Sector{l[0], s})
	}
}

// P6.1, P6.2: of any sectors one byte away from a region's, Decode tells the region whose sectors they are, or none.
func TestDecodeOfAny(t *testing.T) {
	told, asked := 0, 0
	for _, g := range geoms() {
		for _, r := range []api.Region{plain(g), full(g)} {
			for which := range 2 {
				for i := range 64 {
					for v := range 256 {
						l := laid(r)
						l[which][i] = byte(v)
						asked++
						x, e := region.Decode(l)
						if e != api.OK {
							none(t, "near", l)
							continue
						}
						told++
						if !region.Good(x) || laid(x) != l {
							t.Errorf("Decode %v: %+v", l, x)
						}
						may(t, "near", x)
					}
				}
			}
		}
	}
	if told == 0 || told == asked {
		t.Errorf("%d of %d are regions", told, asked)
	}
}

// Rule 4: what is answered hangs on the arguments alone.
func TestAnswersStay(t *testing.T) {
	for _, other := range []api.Region{{}, full(geom(64, 16, 32, 16)), {Geom: geom(64, 16, 32, 16), Seg: 16}, {Geom: geom(8, 6, 24, 2), Roots: [8]int{0, 4}}} {
		region.Good(other)
		l, _ := region.Encode(other)
		region.Decode(l)
		region.Decode([2]api.Sector{l[1], l[0]})
		may(t, "behind another", full(geom(16, 8, 24, 4)))
		mayNot(t, "behind another", api.Region{Geom: geom(16, 8, 24, 1)})
	}
}
