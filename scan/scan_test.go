package scan_test

import (
	"bytes"
	"math"
	"slices"
	"testing"

	"silt/api"
	"silt/dev"
	"silt/group"
	"silt/journal"
	"silt/scan"
)

func list(l ...int) []int { return l }

func geom(segs, segLen int) api.Geom {
	return api.Geom{Pages: 40, Segs: segs, SegLen: segLen, Frames: 4}
}

// total is how many sectors such a geometry has; that is counted here, apart from plan.
func total(g api.Geom) int { return 4 + g.Segs*g.SegLen }

// place is where sector off of segment seg stands, likewise.
func place(g api.Geom, seg, off int) int { return 4 + seg*g.SegLen + off }

func image(id int) api.Item {
	return api.Item{Mark: api.Mark{Kind: 1, Id: id}, Block: api.Block{Kind: 1, Id: id, Page: api.Page{byte(id), 31: 5}}}
}

func delta(id int) api.Item {
	return api.Item{Mark: api.Mark{Kind: 2, Id: id}, Block: api.Block{Kind: 2, Id: id, Off: id % 16, Bytes: bytes.Repeat([]byte{7}, 1+id%16), Prev: 4 + id}}
}

func mapping(id int) api.Item {
	return api.Item{Mark: api.Mark{Kind: 3, Id: id}, Block: api.Block{Kind: 3, Id: id, Heads: [8]int{0, 1, 4 + id, 1023}}}
}

func alloc(id int) api.Item { return api.Item{Mark: api.Mark{Kind: 4, Id: id}} }

func free(id int) api.Item { return api.Item{Mark: api.Mark{Kind: 5, Id: id}} }

// only are items of the pages from one to behind another, all made by one function.
func only(from, to int, make func(id int) api.Item) []api.Item {
	var l []api.Item
	for id := from; id < to; id++ {
		l = append(l, make(id))
	}
	return l
}

// images are n items with blocks, then others of marks alone.
func images(n, others int) []api.Item {
	return slices.Concat(only(0, n, image), only(n, n+others, free))
}

// turns are n items of pages, 64 at most, of all kinds that pages have by turns.
func turns(n int) []api.Item {
	return only(0, n, func(id int) api.Item { return []func(int) api.Item{delta, free, image, alloc}[id%4](id) })
}

// sized are items of a group of n sectors, 34 at most; unlike for each turn.
func sized(n, turn int) []api.Item {
	l := images(max(0, n-1), 0)
	switch {
	case n == 1:
		l = images(0, 1)
	case n == 26: // with one mark more there is one summary more
		l = images(24, 1)
	case n > 26:
		l = images(n-2, 0)
	}
	for i := range l {
		if l[i].Kind == api.Image {
			l[i].Block.Page[9] = byte(turn)
		}
	}
	return l
}

// sample is a sector that is none's, and none of a group's.
func sample(i int) (s api.Sector) {
	for k := range s {
		s[k] = byte(200 + i + 3*k)
	}
	s[0] = 0
	return s
}

// device has n sectors that are none's, none of them loose.
func device(t *testing.T, n int) *dev.Dev {
	t.Helper()
	d, e := dev.New(n)
	if e != api.OK {
		t.Fatalf("device of %d sectors: %d", n, e)
	}
	for i := range n {
		d.Write(i, sample(i))
	}
	d.Flush()
	return d
}

// sectors are all of a device, as they are read.
func sectors(t *testing.T, d *dev.Dev) []api.Sector {
	t.Helper()
	l := make([]api.Sector, d.Len())
	for i := range l {
		s, e := d.Read(i)
		if e != api.OK {
			t.Fatalf("read of sector %d: %d", i, e)
		}
		l[i] = s
	}
	return l
}

// lay writes a group from a sector on, as far as the device goes, and tells what is to be read there.
func lay(t *testing.T, d *dev.Dev, first int, seq uint32, l []api.Item) scan.Group {
	t.Helper()
	own, at, e := group.Lay(seq, l)
	if e != api.OK {
		t.Fatalf("%d items are no group: %d", len(l), e)
	}
	for i, s := range own {
		d.Write(first+i, s)
	}
	places := make([]int, len(l))
	for i, k := range at {
		if k >= 0 {
			places[i] = first + k
		}
	}
	return scan.Group{Items: l, Places: places}
}

func equal(a, b api.Item) bool {
	x, y := a.Block, b.Block
	return a.Mark == b.Mark && x.Kind == y.Kind && x.Id == y.Id && x.Page == y.Page && x.Off == y.Off && bytes.Equal(x.Bytes, y.Bytes) && x.Prev == y.Prev && x.Heads == y.Heads
}

func alike(a, b scan.Group) bool {
	return slices.EqualFunc(a.Items, b.Items, equal) && slices.Equal(a.Places, b.Places)
}

func same(a, b journal.At) bool {
	return a.Seg == b.Seg && a.Off == b.Off && a.Seq == b.Seq && slices.Equal(a.Free, b.Free)
}

// brief are the places of each group: there is one for each item.
func brief(l []scan.Group) [][]int {
	var out [][]int
	for _, x := range l {
		out = append(out, x.Places)
	}
	return out
}

// reads holds what is read against what is wanted; the device is as it was, and from where it ends on nothing is read.
func reads(t *testing.T, name string, d *dev.Dev, g api.Geom, a journal.At, want []scan.Group, end journal.At) {
	t.Helper()
	was, loose, done := sectors(t, d), d.Loose(), d.Done()
	got, at, e := scan.Read(d, g, a)
	if e != api.OK || !slices.EqualFunc(got, want, alike) || !same(at, end) {
		t.Fatalf("%s: from %+v on: %d: %v to %+v, not %v to %+v", name, a, e, brief(got), at, brief(want), end)
	}
	got, again, e := scan.Read(d, g, at)
	if e != api.OK || len(got) != 0 || !same(again, end) {
		t.Fatalf("%s: from %+v on, where it ended: %d: %v to %+v", name, at, e, brief(got), again)
	}
	if !slices.Equal(sectors(t, d), was) || d.Loose() != loose || d.Done() != done {
		t.Errorf("%s: from %+v on: the device is changed", name, a)
	}
}

func none(t *testing.T, name string, d *dev.Dev, g api.Geom, a journal.At) {
	t.Helper()
	reads(t, name, d, g, a, nil, a)
}

// refuses asks for what may not be read, and holds that all is zero, and the device as it was.
func refuses(t *testing.T, name string, d *dev.Dev, g api.Geom, a journal.At) {
	t.Helper()
	loose, done := d.Loose(), d.Done()
	if l, at, e := scan.Read(d, g, a); e != api.ErrArg || len(l) != 0 || !same(at, journal.At{}) {
		t.Errorf("%s: %+v at %+v: %v, %+v, %d", name, g, a, brief(l), at, e)
	}
	if d.Loose() != loose || d.Done() != done {
		t.Errorf("%s: %+v at %+v: the device is changed", name, g, a)
	}
}

// shapes are geometries that may be, at the edges and between.
func shapes() []api.Geom {
	return []api.Geom{
		{Pages: 1, Segs: 6, SegLen: 24, Frames: 2}, {Pages: 64, Segs: 16, SegLen: 32, Frames: 16},
		{Pages: 16, Segs: 8, SegLen: 24, Frames: 4}, {Pages: 40, Segs: 7, SegLen: 31, Frames: 3}, {Pages: 9, Segs: 16, SegLen: 25, Frames: 5},
	}
}

// numbers are a group's, small, great, and with a byte that differs.
func numbers() []uint32 {
	return []uint32{0, 1, 7, 255, 256, 0x01020304, 1<<31 - 1, 1 << 31, math.MaxUint32 - 3, math.MaxUint32 - 2, math.MaxUint32 - 1, math.MaxUint32}
}

// others are all segments but one.
func others(segs, seg int) []int {
	var l []int
	for s := range segs {
		if s != seg {
			l = append(l, s)
		}
	}
	return l
}

// P15.1: no device, one with fewer sectors than the geometry's, with just as many, and with more; all of them hold a group that would be read.
func TestDevices(t *testing.T) {
	for _, g := range shapes() {
		a := journal.At{Seg: 0, Off: 3, Seq: 7, Free: list(1, 2)}
		for _, d := range []*dev.Dev{nil, {}} {
			refuses(t, "no device", d, g, a)
			refuses(t, "no device", d, g, journal.At{})
		}
		for _, n := range []int{10, total(g) - g.SegLen, total(g) - 4, total(g) - 1} {
			d := device(t, n)
			lay(t, d, 7, 7, images(1, 1))
			refuses(t, "too few sectors", d, g, a)
		}
		for _, n := range []int{total(g), total(g) + 1, 1024} {
			d := device(t, n)
			want := lay(t, d, 7, 7, images(1, 1))
			reads(t, "sectors", d, g, a, []scan.Group{want}, journal.At{Seg: 0, Off: 5, Seq: 8, Free: list(1, 2)})
		}
	}
	refuses(t, "no device", nil, api.Geom{}, journal.At{})
	refuses(t, "no device", nil, geom(6, 24), journal.At{Seg: -1})
}

// P15.1: geometries that may not be, on the greatest device.
func TestNoGeometry(t *testing.T) {
	d := device(t, 1024)
	lay(t, d, 4, 0, images(1, 1))
	wrong := []api.Geom{{}, {Pages: math.MinInt, Segs: math.MaxInt, SegLen: math.MaxInt, Frames: math.MinInt}}
	for _, n := range []int{math.MinInt, -1, 0, 65, math.MaxInt} {
		wrong = append(wrong, api.Geom{Pages: n, Segs: 6, SegLen: 24, Frames: 4})
	}
	for _, n := range []int{math.MinInt, -6, 0, 5, 17, 1 << 32, math.MaxInt} {
		wrong = append(wrong, api.Geom{Pages: 40, Segs: n, SegLen: 24, Frames: 4})
	}
	for _, n := range []int{math.MinInt, -24, 0, 23, 33, math.MaxInt} {
		wrong = append(wrong, api.Geom{Pages: 40, Segs: 6, SegLen: n, Frames: 4})
	}
	for _, n := range []int{math.MinInt, -2, 1, 17, math.MaxInt} {
		wrong = append(wrong, api.Geom{Pages: 40, Segs: 6, SegLen: 24, Frames: n})
	}
	for _, g := range wrong {
		refuses(t, "no geometry", d, g, journal.At{})
		refuses(t, "no geometry", d, g, journal.At{Seg: 1, Off: 3, Seq: 7, Free: list(0, 2)})
	}
}

// P15.1: places where no journal may be; what journal.New takes, and no other, is taken.
func TestNoAt(t *testing.T) {
	far := []int{math.MinInt, math.MinInt32, -1 << 32, -256, -1, 64, 1 << 16, 1 << 32, 1<<32 + 1, math.MaxInt}
	for _, g := range shapes() {
		d := device(t, total(g))
		wrong := []journal.At{{Seg: g.Segs}, {Off: g.SegLen + 1}, {Seg: g.SegLen, Off: g.Segs}, {Seg: 1, Free: list(1)}, {Seg: 1, Free: list(0, 1, 2)}, {Seg: 1, Free: list(0, 0)}, {Seg: 1, Free: list(2, 0)}, {Free: list(1, g.Segs)}, {Free: list(-1, 1)}, {Free: make([]int, 5000)}}
		for _, n := range far {
			wrong = append(wrong, journal.At{Seg: n}, journal.At{Off: n}, journal.At{Seg: n, Off: n}, journal.At{Free: list(n)}, journal.At{Free: list(1, 3, n)})
		}
		for _, a := range wrong {
			if journal.Good(g, a) {
				t.Errorf("%+v at %+v may be", g, a)
			}
			refuses(t, "no At", d, g, a)
		}
		for seg := range g.Segs {
			for _, off := range list(0, 1, g.SegLen-1, g.SegLen) {
				for _, free := range [][]int{nil, {}, others(g.Segs, seg)[:1], others(g.Segs, seg)[2:], others(g.Segs, seg)} {
					none(t, "an At", d, g, journal.At{Seg: seg, Off: off, Seq: 7, Free: free})
				}
			}
		}
	}
}

// P15.1: the chapter's example, a new device: none, wherever it is.
func TestNewDevice(t *testing.T) {
	for _, g := range shapes() {
		for _, n := range list(total(g), 1024) {
			d, _ := dev.New(n)
			for _, seq := range numbers() {
				none(t, "new", d, g, journal.At{Seq: seq})
				none(t, "new", d, g, journal.At{Seg: g.Segs - 1, Off: g.SegLen, Seq: seq, Free: others(g.Segs, g.Segs-1)})
				none(t, "new", d, g, journal.At{Seg: 2, Off: 9, Seq: seq, Free: list(1, 3)})
			}
		}
	}
}

// P15.1: groups of each number of sectors at each Off: told, up to the one that ends just where the segment ends; none of one that would go past it, though all its sectors are there.
func TestAtOff(t *testing.T) {
	for _, g := range []api.Geom{geom(6, 24), geom(7, 27), geom(6, 32)} {
		for n := 1; n <= g.SegLen; n++ {
			for off := 0; off <= g.SegLen; off++ {
				for _, seg := range list(0, 3, g.Segs-1) {
					atOff(t, g, n, journal.At{Seg: seg, Off: off, Seq: 7, Free: others(g.Segs, seg)[2:4]})
				}
			}
		}
	}
}

// atOff reads one group of n sectors at Off.
func atOff(t *testing.T, g api.Geom, n int, a journal.At) {
	t.Helper()
	d := device(t, total(g)+g.SegLen) // the last segment's group may go past it, too
	l := sized(n, 0)
	want := lay(t, d, place(g, a.Seg, a.Off), a.Seq, l)
	if a.Off+n > g.SegLen {
		none(t, "past the segment", d, g, a)
		return
	}
	reads(t, "at Off", d, g, a, []scan.Group{want}, journal.At{Seg: a.Seg, Off: a.Off + n, Seq: a.Seq + uint32(group.Parts(l)), Free: a.Free})
}

// P15.1: a group at the beginning of the least free segment, of each size that a segment has: that segment is Seg, and no longer free, Off behind it.
func TestInLeastFree(t *testing.T) {
	for _, g := range []api.Geom{geom(6, 24), geom(7, 27), geom(6, 32)} {
		for n := 1; n <= g.SegLen; n++ {
			l := sized(n, 0)
			for _, off := range list(0, 5, g.SegLen-1, g.SegLen) {
				for _, free := range [][]int{{0, 4, 5}, {1, 5}, {4}, {5}} {
					d := device(t, total(g))
					want := lay(t, d, place(g, free[0], 0), 7, l)
					end := journal.At{Seg: free[0], Off: n, Seq: 7 + uint32(group.Parts(l)), Free: free[1:]}
					reads(t, "in the least free one", d, g, journal.At{Seg: 3, Off: off, Seq: 7, Free: free}, []scan.Group{want}, end)
				}
			}
		}
	}
}

// P15.1: a group at Off and one of the same number at the beginning of the least free segment: the one at Off is told.
func TestAtBoth(t *testing.T) {
	g := geom(6, 24)
	a := journal.At{Seg: 3, Off: 5, Seq: 7, Free: list(1, 4)}
	d := device(t, total(g))
	at := lay(t, d, place(g, 3, 5), 7, turns(6))
	other := lay(t, d, place(g, 1, 0), 7, images(2, 0))
	reads(t, "at both", d, g, a, []scan.Group{at}, journal.At{Seg: 3, Off: 9, Seq: 8, Free: list(1, 4)})
	// the one in the least free segment is told once the one at Off is none's
	d.Write(place(g, 3, 7), sample(3))
	reads(t, "at one", d, g, a, []scan.Group{other}, journal.At{Seg: 1, Off: 3, Seq: 8, Free: list(4)})
	// behind the one at Off the least free segment's is told, if it has the next number
	at = lay(t, d, place(g, 3, 5), 7, turns(6))
	next := lay(t, d, place(g, 1, 0), 8, images(2, 0))
	reads(t, "one behind the other", d, g, a, []scan.Group{at, next}, journal.At{Seg: 1, Off: 3, Seq: 9, Free: list(4)})
}

// P15.1: groups of the next number that stand elsewhere are not told: in another free segment, in one that is not free, or not at the beginning of the least free one, ahead of Off or behind it, in the regions.
func TestElsewhere(t *testing.T) {
	g := geom(6, 24)
	a := journal.At{Seg: 3, Off: 5, Seq: 7, Free: list(1, 4)}
	for seg := range 6 {
		for off := range 24 {
			if seg == 3 && off == 5 || seg == 1 && off == 0 {
				continue
			}
			d := device(t, total(g))
			lay(t, d, place(g, seg, off), 7, images(0, 1))
			none(t, "elsewhere", d, g, a)
			none(t, "elsewhere, none free", d, g, journal.At{Seg: 3, Off: 5, Seq: 7})
		}
	}
	for first := range 4 {
		d := device(t, total(g))
		lay(t, d, first, 7, images(0, 1))
		none(t, "in a region", d, g, a)
		none(t, "in a region", d, g, journal.At{Seg: 0, Off: 0, Seq: 7})
	}
	d := device(t, total(g))
	lay(t, d, place(g, 1, 0), 7, images(0, 1))
	none(t, "none free", d, g, journal.At{Seg: 3, Off: 5, Seq: 7})
	none(t, "another least one", d, g, journal.At{Seg: 3, Off: 5, Seq: 7, Free: list(0, 1, 4)})
}

// P15.1: with Off at SegLen there is no group at Off, though one stands in the sector behind.
func TestOffAtSegLen(t *testing.T) {
	for _, g := range shapes() {
		last := g.Segs - 1
		d := device(t, total(g)+1)
		behind := lay(t, d, place(g, 3, 0), 7, images(1, 1))
		lay(t, d, total(g), 7, images(0, 1))
		none(t, "none free", d, g, journal.At{Seg: 2, Off: g.SegLen, Seq: 7})
		none(t, "others free", d, g, journal.At{Seg: 2, Off: g.SegLen, Seq: 7, Free: list(1, 3)})
		none(t, "behind the last segment", d, g, journal.At{Seg: last, Off: g.SegLen, Seq: 7})
		reads(t, "the next one free", d, g, journal.At{Seg: 2, Off: g.SegLen, Seq: 7, Free: list(3)}, []scan.Group{behind}, journal.At{Seg: 3, Off: 2, Seq: 8})
		reads(t, "behind the last segment", d, g, journal.At{Seg: last, Off: g.SegLen, Seq: 7, Free: list(3, 4)}, []scan.Group{behind}, journal.At{Seg: 3, Off: 2, Seq: 8, Free: list(4)})
	}
}

// P15.1: a group of another number than the next one, at Off and in the least free segment, is not told.
func TestOtherNumbers(t *testing.T) {
	g := geom(6, 24)
	for _, seq := range numbers() {
		for _, other := range []uint32{seq - 1, seq + 1, seq - 2, seq + 2, seq + 256, seq - 1<<16, seq + 1<<24, seq + 1<<31} {
			d := device(t, total(g))
			a := journal.At{Seg: 3, Off: 5, Seq: seq, Free: list(1, 4)}
			lay(t, d, place(g, 3, 5), other, images(1, 1))
			none(t, "at Off", d, g, a)
			want := lay(t, d, place(g, 1, 0), seq, turns(5))
			reads(t, "in the least free one", d, g, a, []scan.Group{want}, journal.At{Seg: 1, Off: 4, Seq: seq + 1, Free: list(4)})
			lay(t, d, place(g, 1, 0), other, turns(5))
			none(t, "at both", d, g, a)
			a.Seq = other
			at := lay(t, d, place(g, 3, 5), other, images(1, 1))
			if l, _, e := scan.Read(d, g, a); e != api.OK || len(l) == 0 || !alike(l[0], at) {
				t.Errorf("number %d: %v, %d", other, brief(l), e)
			}
		}
	}
}

// P15.1: groups of one, two and three parts: the number goes on by their parts, behind the greatest one at 0; a group of another number behind them is not told.
func TestParts(t *testing.T) {
	g := geom(6, 32)
	for _, c := range []struct {
		l     []api.Item
		parts uint32
		n     int
	}{{images(0, 1), 1, 1}, {images(20, 4), 1, 21}, {images(3, 22), 2, 5}, {turns(40), 2, 22}, {images(24, 1), 2, 26}, {images(0, 48), 2, 2}, {images(0, 49), 3, 3}, {images(24, 40), 3, 27}, {images(1, 63), 3, 4}, {turns(56), 3, 31}} {
		for _, seq := range numbers() {
			d := device(t, total(g))
			a := journal.At{Seg: 3, Off: 0, Seq: seq, Free: list(1, 4)}
			first := lay(t, d, place(g, 3, 0), seq, c.l)
			end := journal.At{Seg: 3, Off: c.n, Seq: seq + c.parts, Free: list(1, 4)}
			reads(t, "parts", d, g, a, []scan.Group{first}, end)
			for _, wrong := range []uint32{0, 1, 2, 3, 4} {
				if wrong != c.parts {
					lay(t, d, place(g, 3, c.n), seq+wrong, images(0, 1))
					lay(t, d, place(g, 1, 0), seq+wrong, images(0, 1))
					reads(t, "another number behind", d, g, a, []scan.Group{first}, end)
				}
			}
			d.Write(place(g, 1, 0), sample(0))
			second := lay(t, d, place(g, 3, c.n), seq+c.parts, images(0, 1))
			end.Off, end.Seq = c.n+1, end.Seq+1
			reads(t, "the next number behind", d, g, a, []scan.Group{first, second}, end)
		}
	}
}

// P15.1: a group of some parts with a sector that is missing, none's, turned or of another number is not told, nor a part of it, nor what stands behind it.
func TestSpoilt(t *testing.T) {
	g := geom(6, 32)
	for _, l := range [][]api.Item{images(2, 1), images(3, 22), images(24, 2), images(4, 46), turns(56)} {
		d := device(t, total(g))
		ahead := lay(t, d, place(g, 3, 0), 7, images(0, 1))
		first := place(g, 3, 1)
		lay(t, d, first, 8, l)
		own, _, _ := group.Lay(8, l)
		other, _, _ := group.Lay(108, l)
		if len(own) < g.SegLen-1 {
			lay(t, d, first+len(own), 8+uint32(group.Parts(l)), images(0, 1))
		}
		a := journal.At{Seg: 3, Off: 0, Seq: 7, Free: list(1, 4)}
		end := journal.At{Seg: 3, Off: 1, Seq: 8, Free: list(1, 4)}
		for i, s := range own {
			turned := s
			turned[63]++ // zeros belong there, whatever the sector
			swapped := own[(i+1)%len(own)]
			for _, x := range []api.Sector{{}, sample(i), turned, swapped, other[i]} {
				d.Write(first+i, x)
				reads(t, "spoilt", d, g, a, []scan.Group{ahead}, end)
			}
			d.Write(first+i, s)
			if got, _, e := scan.Read(d, g, a); e != api.OK || len(got) < 2 || !slices.EqualFunc(got[1].Items, l, equal) {
				t.Fatalf("mended: %d, %v", e, brief(got))
			}
		}
	}
}

// P15.1: a later part whose first one is missing is not told by the first one's number, nor a first part whose later one stands in another segment; by its own number the last part is a group.
func TestPartsApart(t *testing.T) {
	g := geom(6, 24)
	own, _, _ := group.Lay(7, images(3, 22))
	d := device(t, total(g))
	d.Write(place(g, 3, 5), own[4])
	for _, seq := range []uint32{6, 7, 9} {
		none(t, "the second part", d, g, journal.At{Seg: 3, Off: 5, Seq: seq, Free: list(1, 4)})
	}
	second := scan.Group{Items: images(3, 22)[24:], Places: list(0)}
	reads(t, "the second part", d, g, journal.At{Seg: 3, Off: 5, Seq: 8, Free: list(1, 4)}, []scan.Group{second}, journal.At{Seg: 3, Off: 6, Seq: 9, Free: list(1, 4)})
	d = device(t, total(g))
	for i, s := range own[:4] {
		d.Write(place(g, 3, 20)+i, s)
	}
	d.Write(place(g, 4, 0), own[4])
	none(t, "parts in two segments", d, g, journal.At{Seg: 3, Off: 20, Seq: 7, Free: list(4)})
	none(t, "parts in two segments", d, g, journal.At{Seg: 3, Off: 20, Seq: 7})
}

// P15.1: a sector that is none's between two groups ends it, though the next one has the next number; sectors behind the last one change nothing.
func TestBetweenAndBehind(t *testing.T) {
	g := geom(6, 24)
	a := journal.At{Seg: 3, Off: 2, Seq: 7, Free: list(1, 4)}
	for _, gap := range list(1, 2, 5) {
		for _, zeros := range []bool{false, true} {
			d := device(t, total(g))
			if zeros {
				d, _ = dev.New(total(g))
			}
			first := lay(t, d, place(g, 3, 2), 7, images(2, 0))
			lay(t, d, place(g, 3, 5+gap), 8, images(2, 0))
			reads(t, "a gap", d, g, a, []scan.Group{first}, journal.At{Seg: 3, Off: 5, Seq: 8, Free: list(1, 4)})
			second := lay(t, d, place(g, 1, 0), 8, images(1, 1))
			reads(t, "a gap, and the least free one", d, g, a, []scan.Group{first, second}, journal.At{Seg: 1, Off: 2, Seq: 9, Free: list(4)})
			lay(t, d, place(g, 1, gap), 8, images(1, 1))
			if gap > 1 {
				d.Write(place(g, 1, 0), sample(0))
				reads(t, "a gap, and one in the least free one", d, g, a, []scan.Group{first}, journal.At{Seg: 3, Off: 5, Seq: 8, Free: list(1, 4)})
			}
		}
	}
}

// P15.1: old groups of smaller numbers, whole or begun, that lie behind the newest one and in the free segments are not told.
func TestOldGroups(t *testing.T) {
	g := geom(6, 24)
	for n := 1; n < 20; n++ {
		d := device(t, total(g))
		for seg := range 6 {
			for off := range 24 {
				lay(t, d, place(g, seg, off), uint32(100+seg*24+off), images(0, 1))
			}
		}
		lay(t, d, place(g, 3, 0), 300, images(23, 0))
		newest := lay(t, d, place(g, 3, 0), 400, sized(n, 1))
		reads(t, "old ones", d, g, journal.At{Seg: 3, Off: 0, Seq: 400, Free: list(1, 4)}, []scan.Group{newest}, journal.At{Seg: 3, Off: n, Seq: 401, Free: list(1, 4)})
		none(t, "old ones", d, g, journal.At{Seg: 3, Off: n, Seq: 401, Free: list(1, 4)})
		none(t, "old ones", d, g, journal.At{Seg: 0, Off: 0, Seq: 401, Free: list(1, 2, 3, 4, 5)})
	}
}

// P15.1: of each group its Items just as they were laid, of all kinds, and of each the place of its block: 0 for those without one.
func TestItemsAndPlaces(t *testing.T) {
	g := geom(8, 24)
	d := device(t, total(g))
	l := []api.Item{image(4), free(3), delta(9), mapping(4), alloc(63), image(0), delta(62), mapping(0)}
	one := lay(t, d, place(g, 1, 3), 7, l)
	two := lay(t, d, place(g, 1, 10), 8, []api.Item{free(4)})
	three := lay(t, d, place(g, 0, 0), 9, []api.Item{delta(15)})
	if !slices.Equal(one.Places, list(32, 0, 33, 34, 0, 35, 36, 37)) || !slices.Equal(two.Places, list(0)) || !slices.Equal(three.Places, list(5)) {
		t.Fatalf("laid at %v, %v, %v", one.Places, two.Places, three.Places)
	}
	reads(t, "kinds", d, g, journal.At{Seg: 1, Off: 3, Seq: 7, Free: list(0, 5, 7)}, []scan.Group{one, two, three}, journal.At{Seg: 0, Off: 2, Seq: 10, Free: list(5, 7)})
}

// on is a journal on a device.
func on(t *testing.T, d *dev.Dev, g api.Geom, a journal.At) *journal.Journal {
	t.Helper()
	j, e := journal.New(d, g, a)
	if e != api.OK {
		t.Fatalf("New at %+v: %d", a, e)
	}
	return j
}

// put puts a group, and tells what is to be read again.
func put(t *testing.T, j *journal.Journal, l []api.Item) scan.Group {
	t.Helper()
	places, e := j.Put(l)
	if e != api.OK {
		t.Fatalf("Put of %d items at %+v: %d", len(l), j.At(), e)
	}
	return scan.Group{Items: l, Places: places}
}

// P15.2: groups of each number of sectors, put till there is no room, in two, three and all free segments: all are read again behind each Put, and it ends where the journal is.
func TestFull(t *testing.T) {
	for _, g := range []api.Geom{geom(6, 24), geom(7, 29), geom(6, 32)} {
		for _, free := range [][]int{nil, {4}, {1, 4}, {0, 1, 5}, others(g.Segs, 2)} {
			for n := 1; n <= g.SegLen; n += 1 + n/4 {
				full(t, g, n, journal.At{Seg: 2, Off: 3, Seq: math.MaxUint32 - 5, Free: free})
			}
		}
	}
}

// full puts groups of n sectors till there is no room.
func full(t *testing.T, g api.Geom, n int, a journal.At) {
	t.Helper()
	d := device(t, total(g))
	j := on(t, d, g, a)
	var want []scan.Group
	groups := (g.SegLen-a.Off)/n + len(a.Free)*(g.SegLen/n)
	for turn := range groups {
		want = append(want, put(t, j, sized(n, turn)))
		if n > 4 || turn%16 == 0 {
			reads(t, "put", d, g, a, want, j.At())
		}
	}
	if _, e := j.Put(sized(n, 0)); e != api.ErrSpace {
		t.Errorf("%+v, %d sectors: %d behind %d groups", g, n, e, groups)
	}
	reads(t, "full", d, g, a, want, j.At())
	d.Crash(nil)
	reads(t, "full, behind a crash", d, g, a, want, j.At())
}

// P15.2: many groups of all sizes, the device full of old ones, numbers that go round: from each place where the journal was, just those behind it are read, and from none with another number.
func TestManyPuts(t *testing.T) {
	for k, g := range shapes() {
		turn := uint32(k + 1)
		d := device(t, total(g))
		seq := uint32(math.MaxUint32 - 60)
		for round := range 5 {
			a := journal.At{Seg: round % g.Segs, Off: round * 5, Seq: seq, Free: others(g.Segs, round%g.Segs)[round%2:]}
			j := on(t, d, g, a)
			ats := []journal.At{a}
			var want []scan.Group
			for {
				turn = turn*1664525 + 1013904223
				l := turns(1 + int(turn>>20)%44)
				if turn>>30 == 2 {
					l = images(1+int(turn>>8)%(g.SegLen-3), int(turn>>12)%30)
				}
				places, e := j.Put(l)
				if e == api.ErrSpace {
					break
				}
				if e == api.OK {
					want, ats = append(want, scan.Group{Items: l, Places: places}), append(ats, j.At())
				}
			}
			if len(want) < g.Segs {
				t.Errorf("%+v: %d groups", g, len(want))
			}
			for i, at := range ats {
				reads(t, "many", d, g, at, want[i:], j.At())
				at.Seq += 1 << 30
				none(t, "another number", d, g, at)
			}
			seq = j.At().Seq + 64
		}
	}
}

// P15.2: a Put that failed, at each write and at the flush, and was put again: it is read once, as if it hadn't failed.
func TestPutAgain(t *testing.T) {
	g := geom(6, 24)
	for _, c := range []struct {
		a    journal.At
		l    []api.Item
		then journal.At
	}{
		{journal.At{Seg: 1, Off: 3, Seq: 7, Free: list(0, 2)}, images(3, 1), journal.At{Seg: 1, Off: 8, Seq: 9, Free: list(0, 2)}},
		{journal.At{Seg: 1, Off: 21, Seq: 7, Free: list(0, 2)}, images(3, 0), journal.At{Seg: 0, Off: 4, Seq: 9, Free: list(2)}},
		{journal.At{Seg: 1, Off: 20, Seq: math.MaxUint32 - 1, Free: list(4, 5)}, images(12, 40), journal.At{Seg: 4, Off: 15, Seq: 2, Free: list(5)}},
	} {
		for n := range group.Size(c.l) + 1 {
			d := device(t, total(g))
			j := on(t, d, g, c.a)
			ahead := put(t, j, images(0, 1))
			at := j.At()
			d.Fail(n)
			if _, e := j.Put(c.l); e != api.ErrDevice {
				t.Fatalf("failing behind %d: %d", n, e)
			}
			if n < group.Size(c.l) {
				reads(t, "a part of it", d, g, c.a, []scan.Group{ahead}, at)
			}
			again := put(t, j, c.l)
			reads(t, "again", d, g, c.a, []scan.Group{ahead, again}, c.then)
			reads(t, "again", d, g, at, []scan.Group{again}, c.then)
			if !same(j.At(), c.then) {
				t.Errorf("at %+v, not %+v", j.At(), c.then)
			}
		}
	}
}

// P15.1, P15.2: a device that crashed behind a Put, and in one: what was put is read; the one that was cut is read if all its sectors are there.
func TestCrashes(t *testing.T) {
	g := geom(6, 24)
	for keep := range 32 {
		for _, off := range list(5, 20) { // the second one is where it is, or in the least free segment
			d := device(t, total(g))
			a := journal.At{Seg: 1, Off: off, Seq: 7, Free: list(3, 4)}
			j := on(t, d, g, a)
			want := []scan.Group{put(t, j, images(2, 0))}
			end := j.At()
			d.Crash(nil)
			reads(t, "behind a Put", d, g, a, want, end)
			d.Fail(5)
			if _, e := j.Put(images(4, 0)); e != api.ErrDevice || d.Loose() != 5 {
				t.Fatalf("cut: %d, %d loose", e, d.Loose())
			}
			bits := []byte{byte(keep), byte(keep >> 1), byte(keep >> 2), byte(keep >> 3), byte(keep >> 4)}
			d.Crash(bits)
			if keep == 31 {
				end = journal.At{Seg: 1, Off: 13, Seq: 9, Free: list(3, 4)}
				if off == 20 {
					end = journal.At{Seg: 3, Off: 5, Seq: 9, Free: list(4)}
				}
				first := place(g, end.Seg, end.Off-5)
				want = append(want, scan.Group{Items: images(4, 0), Places: list(first+1, first+2, first+3, first+4)})
			}
			reads(t, "behind a crash", d, g, a, want, end)
		}
	}
}

// P15.1: what is loose is read as the device reads it, and is loose then still; a failure that the device was told is still ahead.
func TestLoose(t *testing.T) {
	g := geom(6, 24)
	d := device(t, total(g))
	a := journal.At{Seg: 3, Off: 5, Seq: 7, Free: list(1, 4)}
	want := lay(t, d, place(g, 3, 5), 7, images(2, 0))
	d.Fail(1)
	reads(t, "loose", d, g, a, []scan.Group{want}, journal.At{Seg: 3, Off: 8, Seq: 8, Free: list(1, 4)})
	if e := d.Write(0, api.Sector{}); e != api.OK || d.Loose() != 4 {
		t.Errorf("the write ahead of the failure: %d, %d loose", e, d.Loose())
	}
	if e := d.Flush(); e != api.ErrDevice {
		t.Errorf("the failure: %d", e)
	}
	d.Crash(nil)
	none(t, "lost", d, g, a)
}

// walk is where groups are read, place by place: another way to say what Read does.
func walk(all []api.Sector, g api.Geom, a journal.At) ([]scan.Group, journal.At) {
	var l []scan.Group
	free := slices.Clone(a.Free)
	for {
		first, end := place(g, a.Seg, a.Off), place(g, a.Seg+1, 0)
		f, ok := group.Read(a.Seq, all[first:end])
		if !ok && len(free) > 0 {
			first, end = place(g, free[0], 0), place(g, free[0]+1, 0)
			f, ok = group.Read(a.Seq, all[first:end])
		}
		if !ok {
			a.Free = free
			return l, a
		}
		a.Seg = (first - 4) / g.SegLen
		a.Off = first - place(g, a.Seg, 0) + f.Sectors
		a.Seq += uint32(f.Parts)
		free = slices.DeleteFunc(free, func(s int) bool { return s == a.Seg })
		x := scan.Group{Items: f.Items}
		for _, k := range f.At {
			x.Places = append(x.Places, max(0, first+k))
			if k < 0 {
				x.Places[len(x.Places)-1] = 0
			}
		}
		l = append(l, x)
	}
}

// P15.1: groups of all sizes and near numbers at all places, over each other, read from everywhere: held against the walk.
func TestAnyDevice(t *testing.T) {
	turn := uint32(5)
	pick := func(n int) int {
		turn = turn*1664525 + 1013904223
		return int(turn>>12) % n
	}
	counts := map[int]int{}
	for round := range 400 {
		g := shapes()[round%len(shapes())]
		d := device(t, total(g))
		for range 40 {
			seg, off := pick(g.Segs), pick(g.SegLen)*pick(2)
			for range 1 + pick(4) {
				l := sized(1+pick(6)*pick(6), pick(9))
				if pick(4) == 0 {
					l = only(0, 20+pick(44), free)
				}
				if off+group.Size(l) > g.SegLen {
					break
				}
				lay(t, d, place(g, seg, off), uint32(pick(6)), l)
				off += group.Size(l)
			}
		}
		for range 30 {
			seg := pick(g.Segs)
			free := slices.DeleteFunc(others(g.Segs, seg), func(int) bool { return pick(3) == 0 })
			a := journal.At{Seg: seg, Off: pick(g.SegLen+1) * pick(2), Seq: uint32(pick(6)), Free: free}
			want, end := walk(sectors(t, d), g, a)
			reads(t, "any device", d, g, a, want, end)
			counts[len(want)]++
		}
	}
	for n := range 4 {
		if counts[n] < 50 {
			t.Errorf("%d groups: %d times", n, counts[n])
		}
	}
}

// spare are all of a list's room, and what is in it.
func spare[T any](l []T) []T { return l[:cap(l)] }

// Rule 2: no call changes what it is given, nor its spare room.
func TestNothingChanged(t *testing.T) {
	g := geom(6, 24)
	room := []int{0, 2, 4, 5, 77, -3, 9}
	was := slices.Clone(room)
	for i := range room {
		d := device(t, total(g))
		a := journal.At{Seg: 1, Off: 24, Seq: 7, Free: room[:i]}
		for k, seg := range room[:min(i, 4)] {
			lay(t, d, place(g, seg, 0), uint32(7+k), images(k, 1))
		}
		l, _, e := scan.Read(d, g, a)
		if (e == api.OK) != (i <= 4) || e == api.OK && len(l) != i {
			t.Errorf("%d free ones: %d, %d groups", i, e, len(l))
		}
		if !slices.Equal(room, was) {
			t.Fatalf("%d free ones: %v, not %v", i, room, was)
		}
	}
}

// spoil fills all that is told, spare room too.
func spoil(l []scan.Group, a journal.At) {
	for _, x := range l {
		for i := range spare(x.Items) {
			y := &spare(x.Items)[i]
			for k := range spare(y.Block.Bytes) {
				spare(y.Block.Bytes)[k] = 99
			}
			*y = mapping(7)
		}
		for i := range spare(x.Places) {
			spare(x.Places)[i] = -7
		}
	}
	for i := range spare(a.Free) {
		spare(a.Free)[i] = -9
	}
	clear(spare(l))
}

// Rule 2: what is told shares no memory, spare room too, with what is handed in, with the device, nor with another answer.
func TestNewMemory(t *testing.T) {
	g := geom(6, 24)
	for n := range 4 {
		d := device(t, total(g))
		free := list(0, 2, 4, 5)
		a := journal.At{Seg: 1, Off: 20, Seq: 7, Free: free}
		j := on(t, d, g, a)
		var want []scan.Group
		for range n {
			want = append(want, put(t, j, turns(14)))
		}
		one, end, _ := scan.Read(d, g, a)
		two, behind, _ := scan.Read(d, g, a)
		spoil(one, end)
		if !slices.EqualFunc(two, want, alike) || !same(behind, j.At()) {
			t.Errorf("shared: %v to %+v, not %v to %+v", brief(two), behind, brief(want), j.At())
		}
		if !slices.Equal(free, list(0, 2, 4, 5)) {
			t.Errorf("shared: %v", free)
		}
		reads(t, "spoilt", d, g, a, want, j.At())
		for i := range free {
			free[i] = -1
		}
		if !same(behind, j.At()) {
			t.Errorf("kept: %+v, not %+v", behind, j.At())
		}
	}
}

// Rule 2: no two lists of one answer share any memory.
func TestListsApart(t *testing.T) {
	g := geom(6, 32)
	d := device(t, total(g))
	a := journal.At{Seg: 1, Off: 0, Seq: 7, Free: list(0, 2, 4, 5)}
	j := on(t, d, g, a)
	var want []scan.Group
	for range 6 {
		want = append(want, put(t, j, only(0, 14, delta)))
	}
	for i := range want {
		l, end, _ := scan.Read(d, g, a)
		spoil(l[i:i+1:i+1], journal.At{})
		for k := range want {
			if k != i && !alike(l[k], want[k]) {
				t.Errorf("group %d, with %d spoilt: not what was put", k, i)
			}
		}
		if !same(end, j.At()) {
			t.Errorf("with %d spoilt: %+v, not %+v", i, end, j.At())
		}
		l, end, _ = scan.Read(d, g, a)
		for k := range spare(l[i].Places) {
			spare(l[i].Places)[k] = -1
		}
		for k, x := range l[i].Items {
			if !equal(x, want[i].Items[k]) {
				t.Errorf("item %d: %+v, not %+v", k, x, want[i].Items[k])
			}
			b := spare(x.Block.Bytes)
			for m := range b {
				b[m] = byte(k)
			}
		}
		for k, x := range l[i].Items {
			if len(x.Block.Bytes) != 1+k%16 || x.Block.Bytes[0] != byte(k) {
				t.Errorf("item %d: bytes %v", k, x.Block.Bytes)
			}
		}
		if !same(end, j.At()) {
			t.Errorf("with the places of %d filled: %+v, not %+v", i, end, j.At())
		}
	}
}

// Rule 4: what was asked before, of another device too, changes no answer.
func TestAnswersStay(t *testing.T) {
	g := geom(6, 24)
	a := journal.At{Seg: 3, Off: 5, Seq: 7, Free: list(1, 4)}
	d, other := device(t, total(g)), device(t, total(g))
	want := lay(t, d, place(g, 3, 5), 7, images(2, 0))
	for range 3 {
		reads(t, "one", d, g, a, []scan.Group{want}, journal.At{Seg: 3, Off: 8, Seq: 8, Free: list(1, 4)})
		none(t, "the other", other, g, a)
		refuses(t, "no device", nil, g, a)
		refuses(t, "no geometry", d, api.Geom{}, a)
		refuses(t, "no At", d, g, journal.At{Seg: 6})
	}
}
