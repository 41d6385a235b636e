package journal_test

import (
	"bytes"
	"math"
	"slices"
	"testing"

	"silt/api"
	"silt/dev"
	"silt/group"
	"silt/journal"
)

func list(l ...int) []int { return l }

func geom(segs, segLen int) api.Geom {
	return api.Geom{Pages: 40, Segs: segs, SegLen: segLen, Frames: 4}
}

// total is how many sectors such a geometry has; that is counted here, apart from plan.
func total(g api.Geom) int { return 4 + g.Segs*g.SegLen }

func image(id int) api.Item {
	return api.Item{Mark: api.Mark{Kind: 1, Id: id}, Block: api.Block{Kind: 1, Id: id, Page: api.Page{byte(id), 31: 5}}}
}

func delta(id int) api.Item {
	return api.Item{Mark: api.Mark{Kind: 2, Id: id}, Block: api.Block{Kind: 2, Id: id, Off: id % 16, Bytes: bytes.Repeat([]byte{7}, 1+id%16), Prev: 4 + id}}
}

func mapping(id int) api.Item {
	return api.Item{Mark: api.Mark{Kind: 3, Id: id}, Block: api.Block{Kind: 3, Id: id, Heads: [8]int{0, 1, 4 + id, 1023}}}
}

func alloc(id int) api.Item { return api.Item{Mark: api.Mark{Kind: 4, Id: id}} }

func free(id int) api.Item { return api.Item{Mark: api.Mark{Kind: 5, Id: id}} }

// only are n items of pages, 64 at most, all made by one function.
func only(n int, make func(id int) api.Item) []api.Item {
	var l []api.Item
	for id := range n {
		l = append(l, make(id))
	}
	return l
}

// images are n items with blocks, then others of marks alone.
func images(n, others int) []api.Item {
	return slices.Concat(only(n, image), only(n+others, free)[n:])
}

// turns are n items of pages, 64 at most, of all kinds that pages have by turns.
func turns(n int) []api.Item {
	var l []api.Item
	for id := range n {
		l = append(l, []func(int) api.Item{delta, free, image, alloc}[id%4](id))
	}
	return l
}

// sized are items of a group of n sectors, 34 at most.
func sized(n int) []api.Item {
	switch {
	case n == 1:
		return images(0, 1)
	case n <= 25:
		return images(n-1, 0)
	case n == 26: // with one mark more there is one summary more
		return images(24, 1)
	}
	return images(n-2, 0)
}

// sample is a sector that is none's, and none of a journal's.
func sample(i int) (s api.Sector) {
	for k := range s {
		s[k] = byte(200 + i + 3*k)
	}
	s[0] = 0
	return s
}

// device has n sectors, each unlike the others, none of them loose; and what is in them.
func device(t *testing.T, n int) (*dev.Dev, []api.Sector) {
	t.Helper()
	d, e := dev.New(n)
	if e != api.OK {
		t.Fatalf("device of %d sectors: %d", n, e)
	}
	for i := range n {
		d.Write(i, sample(i))
	}
	d.Flush()
	return d, read(t, d)
}

// read are all sectors of a device, as they are read.
func read(t *testing.T, d *dev.Dev) []api.Sector {
	t.Helper()
	l := make([]api.Sector, d.Len())
	for i := range l {
		s, e := d.Read(i)
		if e != api.OK {
			t.Fatalf("read of sector %d: %d", i, e)
		}
		l[i] = s
	}
	return l
}

// made is a journal on a device of its own, which has just the sectors that it needs.
func made(t *testing.T, g api.Geom, a journal.At) (*journal.Journal, *dev.Dev, []api.Sector) {
	t.Helper()
	d, was := device(t, total(g))
	return on(t, d, g, a), d, was
}

func on(t *testing.T, d *dev.Dev, g api.Geom, a journal.At) *journal.Journal {
	t.Helper()
	j, e := journal.New(d, g, a)
	if e != api.OK || j == nil {
		t.Fatalf("New at %+v: %v, %d", a, j, e)
	}
	return j
}

func same(a, b journal.At) bool {
	return a.Seg == b.Seg && a.Off == b.Off && a.Seq == b.Seq && slices.Equal(a.Free, b.Free)
}

func is(t *testing.T, name string, j *journal.Journal, want journal.At) {
	t.Helper()
	if a := j.At(); !same(a, want) {
		t.Errorf("%s: at %+v, not %+v", name, a, want)
	}
}

// holds tells whether a device's sectors are these.
func holds(t *testing.T, name string, d *dev.Dev, want []api.Sector) {
	t.Helper()
	for i, s := range read(t, d) {
		if s != want[i] {
			t.Errorf("%s: sector %d is %v, not %v", name, i, s, want[i])
		}
	}
}

// puts asks for what may be put, and holds the places and where it is then against what is wanted.
func puts(t *testing.T, name string, j *journal.Journal, l []api.Item, places []int, a journal.At) {
	t.Helper()
	got, e := j.Put(l)
	if e != api.OK || !slices.Equal(got, places) {
		t.Errorf("%s: %v, %d, not %v", name, got, e, places)
	}
	is(t, name, j, a)
}

// refuses asks for what may not be put, and holds the error, the device, and where it is.
func refuses(t *testing.T, name string, j *journal.Journal, d *dev.Dev, l []api.Item, want api.Errno) {
	t.Helper()
	a, was, loose, done := j.At(), read(t, d), d.Loose(), d.Done()
	if places, e := j.Put(l); e != want || len(places) != 0 {
		t.Errorf("%s: %v, %d, not %d", name, places, e, want)
	}
	is(t, name, j, a)
	holds(t, name, d, was)
	if d.Loose() != loose || d.Done() != done {
		t.Errorf("%s: %d loose, %d done, not %d, %d", name, d.Loose(), d.Done(), loose, done)
	}
}

// far are numbers that are no segment's, and no place in one.
func far() []int {
	return []int{math.MinInt, math.MinInt + 1, math.MinInt32, -1 << 32, -256, -33, -6, -1, 64, 256, 1 << 16, 1 << 32, 1<<32 + 1, math.MaxInt - 1, math.MaxInt}
}

// shapes are geometries that may be, at the edges and between.
func shapes() []api.Geom {
	return []api.Geom{
		{Pages: 1, Segs: 6, SegLen: 24, Frames: 2}, {Pages: 64, Segs: 16, SegLen: 32, Frames: 16},
		{Pages: 16, Segs: 8, SegLen: 24, Frames: 4}, {Pages: 40, Segs: 7, SegLen: 31, Frames: 3}, {Pages: 9, Segs: 16, SegLen: 25, Frames: 5},
	}
}

// noShapes are geometries that may not be.
func noShapes() []api.Geom {
	l := []api.Geom{{}}
	for _, n := range []int{math.MinInt, -1, 0, 65, math.MaxInt} {
		l = append(l, api.Geom{Pages: n, Segs: 6, SegLen: 24, Frames: 4})
	}
	for _, n := range []int{math.MinInt, -6, 0, 1, 5, 17, 1 << 32, math.MaxInt} {
		l = append(l, api.Geom{Pages: 40, Segs: n, SegLen: 24, Frames: 4})
	}
	for _, n := range []int{math.MinInt, -24, 0, 23, 33, math.MaxInt} {
		l = append(l, api.Geom{Pages: 40, Segs: 6, SegLen: n, Frames: 4})
	}
	for _, n := range []int{math.MinInt, -2, 0, 1, 17, math.MaxInt} {
		l = append(l, api.Geom{Pages: 40, Segs: 6, SegLen: 24, Frames: n})
	}
	return l
}

// good holds Good, and New on a device with room for all, against what is wanted.
func good(t *testing.T, g api.Geom, a journal.At, want bool) {
	t.Helper()
	if got := journal.Good(g, a); got != want {
		t.Errorf("Good of %+v at %+v: %v", g, a, got)
	}
	d, _ := dev.New(1024)
	j, e := journal.New(d, g, a)
	if (j != nil) != want || (e == api.OK) != want || !want && e != api.ErrArg {
		t.Errorf("New of %+v at %+v: %v, %d", g, a, j, e)
	}
	if d.Done() != 0 || d.Loose() != 0 {
		t.Errorf("New of %+v at %+v writes", g, a)
	}
	if want {
		is(t, "New", j, a)
	}
}

// P14.1: which Seg and which Off may be.
func TestGoodSegAndOff(t *testing.T) {
	for _, g := range shapes() {
		for seg := -2; seg <= g.Segs+2; seg++ {
			for off := -2; off <= g.SegLen+2; off++ {
				good(t, g, journal.At{Seg: seg, Off: off}, seg >= 0 && seg < g.Segs && off >= 0 && off <= g.SegLen)
			}
		}
		for _, n := range far() {
			good(t, g, journal.At{Seg: n}, false)
			good(t, g, journal.At{Off: n}, false)
			good(t, g, journal.At{Seg: n, Off: n}, false)
		}
		good(t, g, journal.At{Seg: g.SegLen, Off: g.Segs}, false)
		good(t, g, journal.At{Seg: g.Segs - 1, Off: g.SegLen, Seq: math.MaxUint32}, true)
	}
}

// isFree tells whether these may be the free ones, by what each segment is.
func isFree(segs, seg int, l []int) bool {
	var want []int
	for s := range segs {
		if s != seg && slices.Contains(l, s) {
			want = append(want, s)
		}
	}
	return slices.Equal(want, l)
}

// P14.1: all lists of up to three numbers about a geometry's segments, with the segment that is written at either end and between.
func TestGoodFree(t *testing.T) {
	g := geom(6, 24)
	for _, seg := range []int{0, 2, 5} {
		for a := -1; a <= 6; a++ {
			good(t, g, journal.At{Seg: seg, Free: list(a)}, isFree(6, seg, list(a)))
			for b := -1; b <= 6; b++ {
				good(t, g, journal.At{Seg: seg, Free: list(a, b)}, isFree(6, seg, list(a, b)))
				for c := -1; c <= 6; c++ {
					good(t, g, journal.At{Seg: seg, Free: list(a, b, c)}, isFree(6, seg, list(a, b, c)))
				}
			}
		}
	}
}

// others are all segments but one.
func others(segs, seg int) []int {
	var l []int
	for s := range segs {
		if s != seg {
			l = append(l, s)
		}
	}
	return l
}

// P14.1: none free, all others free, and these with one number more, one twice, one turned, two the other way round.
func TestGoodFreeOfAll(t *testing.T) {
	for _, g := range shapes() {
		for seg := range g.Segs {
			l := others(g.Segs, seg)
			good(t, g, journal.At{Seg: seg, Free: nil}, true)
			good(t, g, journal.At{Seg: seg, Free: list()}, true)
			good(t, g, journal.At{Seg: seg, Off: g.SegLen, Free: l}, true)
			for i := range l {
				good(t, g, journal.At{Seg: seg, Free: l[i:]}, true)
				good(t, g, journal.At{Seg: seg, Free: l[:i]}, true)
				good(t, g, journal.At{Seg: seg, Free: slices.Insert(slices.Clone(l), i, l[i])}, false)
				good(t, g, journal.At{Seg: seg, Free: slices.Insert(slices.Clone(l), i, seg)}, false)
				for _, n := range far() {
					x := slices.Clone(l)
					x[i] = n
					good(t, g, journal.At{Seg: seg, Free: x}, false)
				}
			}
			good(t, g, journal.At{Seg: seg, Free: append(slices.Clone(l), g.Segs)}, false)
			good(t, g, journal.At{Seg: seg, Free: append(list(-1), l...)}, false)
			slices.Reverse(l)
			good(t, g, journal.At{Seg: seg, Free: l}, false)
			all := slices.Sorted(slices.Values(append(l, seg)))
			good(t, g, journal.At{Seg: seg, Free: all}, false)
		}
		good(t, g, journal.At{Free: make([]int, 5000)}, false)
		good(t, g, journal.At{Free: slices.Repeat(list(1, 2, 3), 5000)}, false)
	}
}

// P14.1: geometries that may not be, whatever the At.
func TestGoodOfNoGeometry(t *testing.T) {
	for _, g := range noShapes() {
		for _, a := range []journal.At{{}, {Seg: 1, Off: 3, Seq: 7, Free: list(0, 2)}, {Seg: -1}} {
			good(t, g, a, false)
		}
	}
}

// P14.1: devices with fewer sectors than the geometry's, just as many, and more.
func TestNewDevices(t *testing.T) {
	for _, g := range shapes() {
		for _, c := range []struct {
			n    int
			want bool
		}{{1, false}, {total(g) - g.SegLen, false}, {total(g) - 4, false}, {total(g) - 1, false}, {total(g), true}, {total(g) + 1, true}, {1024, true}} {
			d, was := device(t, c.n)
			done := d.Done()
			j, e := journal.New(d, g, journal.At{Seg: 1, Off: 3, Seq: 7, Free: list(0, 2)})
			if (j != nil) != c.want || (e == api.OK) != c.want || !c.want && e != api.ErrArg {
				t.Errorf("%+v on %d sectors: %v, %d", g, c.n, j, e)
			}
			holds(t, "New", d, was)
			if d.Done() != done || d.Loose() != 0 {
				t.Errorf("%+v on %d sectors: New writes", g, c.n)
			}
		}
		for _, d := range []*dev.Dev{nil, {}} {
			if j, e := journal.New(d, g, journal.At{}); j != nil || e != api.ErrArg {
				t.Errorf("%+v on no device: %v, %d", g, j, e)
			}
		}
	}
	for _, g := range noShapes() {
		if j, e := journal.New(nil, g, journal.At{}); j != nil || e != api.ErrArg {
			t.Errorf("%+v on no device: %v, %d", g, j, e)
		}
	}
}

// P14.1: calls on nil.
func TestNil(t *testing.T) {
	var j *journal.Journal
	for _, l := range [][]api.Item{nil, images(1, 1), images(1, 64)} {
		if places, e := j.Put(l); places != nil || e != api.ErrArg {
			t.Errorf("Put: %v, %d", places, e)
		}
		j.SetFree(nil)
		j.SetFree(list(1, 2))
		j.SetSeq(5)
		if a := j.At(); a.Seg != 0 || a.Off != 0 || a.Seq != 0 || a.Free != nil {
			t.Errorf("At: %+v", a)
		}
	}
}

// P14.1: SetFree of lists that may be, and of lists that may not, which leave all as it was.
func TestSetFree(t *testing.T) {
	for _, g := range shapes() {
		for seg := range g.Segs {
			a := journal.At{Seg: seg, Off: 3, Seq: 7, Free: others(g.Segs, seg)[1:2]}
			j, d, was := made(t, g, a)
			done := d.Done()
			all := others(g.Segs, seg)
			for _, l := range [][]int{all, all[:1], all[len(all)-1:], all[1:3], nil, all[2:], {}} {
				j.SetFree(l)
				a.Free = l
				is(t, "right", j, a)
				wrong := [][]int{{seg}, {-1}, {g.Segs}, {all[0], all[0]}, {all[1], all[0]}, append(slices.Clone(all), g.Segs), append(list(-1), all...), slices.Sorted(slices.Values(append(list(seg), all...))), {math.MinInt}, {math.MaxInt}, make([]int, 5000)}
				for _, x := range wrong {
					j.SetFree(x)
					is(t, "wrong", j, a)
				}
			}
			holds(t, "SetFree", d, was)
			if d.Done() != done || d.Loose() != 0 {
				t.Errorf("SetFree writes")
			}
		}
	}
}

// P14.1: what may be free goes by the segment that is written now, not by the first one.
func TestSetFreeBehindPut(t *testing.T) {
	j, _, _ := made(t, geom(6, 24), journal.At{Seg: 1, Off: 24, Seq: 7, Free: list(0, 3)})
	puts(t, "in the next one", j, images(1, 0), list(5), journal.At{Seg: 0, Off: 2, Seq: 8, Free: list(3)})
	j.SetFree(list(0, 1))
	is(t, "the one that is written", j, journal.At{Seg: 0, Off: 2, Seq: 8, Free: list(3)})
	j.SetFree(list(1, 2))
	is(t, "the one that was written", j, journal.At{Seg: 0, Off: 2, Seq: 8, Free: list(1, 2)})
	puts(t, "there is still room", j, images(1, 0), list(7), journal.At{Seg: 0, Off: 4, Seq: 9, Free: list(1, 2)})
	puts(t, "in the next one again", j, images(23, 0), blocksOf(4+24, 23), journal.At{Seg: 1, Off: 24, Seq: 10, Free: list(2)})
}

// blocksOf are the places of n blocks of one part whose summary is at first.
func blocksOf(first, n int) []int {
	var l []int
	for i := range n {
		l = append(l, first+1+i)
	}
	return l
}

// P14.1: SetSeq of any number: the next group has it, and the one behind it goes on from there.
func TestSetSeq(t *testing.T) {
	for _, seq := range []uint32{0, 1, 6, 7, 8, 255, 256, 0x01020304, 1<<31 - 1, 1 << 31, math.MaxUint32 - 1, math.MaxUint32} {
		j, d, was := made(t, geom(6, 24), journal.At{Seg: 1, Off: 3, Seq: 7, Free: list(0, 3)})
		j.SetSeq(seq)
		is(t, "SetSeq", j, journal.At{Seg: 1, Off: 3, Seq: seq, Free: list(0, 3)})
		holds(t, "SetSeq", d, was)
		puts(t, "Put", j, images(2, 0), list(32, 33), journal.At{Seg: 1, Off: 6, Seq: seq + 1, Free: list(0, 3)})
		puts(t, "Put", j, images(1, 1), list(35, 0), journal.At{Seg: 1, Off: 8, Seq: seq + 2, Free: list(0, 3)})
		first, _, _ := group.Lay(seq, images(2, 0))
		second, _, _ := group.Lay(seq+1, images(1, 1))
		copy(was[31:], slices.Concat(first, second))
		holds(t, "Put", d, was)
	}
}

// P14.2: an ordinary Put, and the chapter's example: the places, where it is, and all sectors of the device.
func TestPut(t *testing.T) {
	j, d, was := made(t, geom(8, 24), journal.At{Seg: 1, Off: 3, Seq: 7, Free: list(0, 2, 5)})
	done := d.Done()
	l := []api.Item{image(4), free(3), delta(9), mapping(4), alloc(63), image(0)}
	puts(t, "each kind", j, l, list(32, 0, 33, 34, 0, 35), journal.At{Seg: 1, Off: 8, Seq: 8, Free: list(0, 2, 5)})
	own, _, _ := group.Lay(7, l)
	copy(was[31:], own)
	holds(t, "each kind", d, was)
	if d.Loose() != 0 || d.Done() != done+6 {
		t.Errorf("%d loose, %d went through, not 5 writes and a flush", d.Loose(), d.Done()-done)
	}
	puts(t, "one Free mark", j, []api.Item{free(5)}, list(0), journal.At{Seg: 1, Off: 9, Seq: 9, Free: list(0, 2, 5)})
	own, _, _ = group.Lay(8, []api.Item{free(5)})
	copy(was[36:], own)
	holds(t, "one Free mark", d, was)
	if d.Loose() != 0 || d.Done() != done+8 {
		t.Errorf("%d loose, %d went through, not 6 writes and two flushes", d.Loose(), d.Done()-done)
	}
	d.Crash(nil)
	holds(t, "behind a crash", d, was)
}

// P14.2: items that may not be a group, and groups with more sectors than a segment has, wherever it is and whatever is free: ErrArg, and nothing is done.
func TestPutOfNoGroup(t *testing.T) {
	twice := append(images(5, 0), free(4))
	noBlock := images(2, 1)
	noBlock[1].Block = api.Block{}
	another := images(2, 1)
	another[1].Block.Id = 7
	tooMuch := images(2, 1)
	tooMuch[2].Block.Kind = 1
	for _, g := range shapes() {
		wrong := [][]api.Item{nil, {}, only(65, free), only(1000, alloc), only(64, image), images(g.SegLen, 0), sized(g.SegLen + 1), sized(34), twice, noBlock, another, tooMuch, {{}}, {image(64)}, {image(-1)}, {mapping(8)}, {{Mark: api.Mark{Kind: 6}}}, {{Mark: api.Mark{Kind: math.MinInt, Id: math.MaxInt}}}}
		for _, off := range []int{0, 1, g.SegLen - 1, g.SegLen} {
			for _, l := range [][]int{nil, {0}, {0, 2, 5}} {
				j, d, _ := made(t, g, journal.At{Seg: 1, Off: off, Seq: 7, Free: l})
				d.Fail(0)
				for i, x := range wrong {
					if group.Size(x) <= g.SegLen && group.Size(x) > 0 {
						t.Errorf("%+v: items %d may be put", g, i)
					}
					refuses(t, "no group", j, d, x, api.ErrArg)
				}
				if e := d.Flush(); e != api.ErrDevice {
					t.Errorf("%+v: the failure is no longer there", g)
				}
			}
		}
	}
}

// P14.2: groups of each number of sectors at each place of a segment: in it, if there is room, else in the least free one; ErrSpace, if none is free.
func TestRoom(t *testing.T) {
	for _, g := range []api.Geom{geom(6, 24), geom(7, 27), geom(6, 32)} {
		for n := 1; n <= g.SegLen; n++ {
			l := sized(n)
			own, at, e := group.Lay(7, l)
			if len(own) != n || e != api.OK {
				t.Fatalf("%d sectors, not %d", len(own), n)
			}
			for off := 0; off <= g.SegLen; off++ {
				for _, free := range [][]int{{0, 4, 5}, {5}, nil} {
					room(t, g, journal.At{Seg: 3, Off: off, Seq: 7, Free: free}, l, own, at)
				}
			}
		}
	}
}

// room puts one group, and holds all against where there is room for it.
func room(t *testing.T, g api.Geom, a journal.At, l []api.Item, own []api.Sector, at []int) {
	t.Helper()
	j, d, was := made(t, g, a)
	done := d.Done()
	if a.Off+len(own) > g.SegLen {
		if len(a.Free) == 0 {
			refuses(t, "no room", j, d, l, api.ErrSpace)
			d.Fail(0)
			refuses(t, "no room, the device failing", j, d, l, api.ErrSpace)
			if e := d.Flush(); e != api.ErrDevice {
				t.Errorf("no room: the failure is no longer there")
			}
			return
		}
		a = journal.At{Seg: a.Free[0], Seq: a.Seq, Free: a.Free[1:]}
	}
	first := 4 + a.Seg*g.SegLen + a.Off
	var places []int
	for _, k := range at {
		if k < 0 {
			places = append(places, 0)
		} else {
			places = append(places, first+k)
		}
	}
	copy(was[first:], own)
	a.Off += len(own)
	a.Seq += uint32(group.Parts(l))
	puts(t, "room", j, l, places, a)
	if d.Loose() != 0 || d.Done() != done+len(own)+1 {
		t.Errorf("at %+v: %d loose, %d went through, not %d writes and a flush", a, d.Loose(), d.Done()-done, len(own))
	}
	d.Crash(bytes.Repeat([]byte{1}, 100))
	holds(t, "room", d, was)
}

// P14.2: behind ErrSpace a smaller group still goes where it is, and the same one, once a segment is free.
func TestBehindErrSpace(t *testing.T) {
	j, d, _ := made(t, geom(6, 24), journal.At{Seg: 5, Off: 22, Seq: 7})
	refuses(t, "three sectors", j, d, images(2, 0), api.ErrSpace)
	puts(t, "one sector", j, images(0, 24), make([]int, 24), journal.At{Seg: 5, Off: 23, Seq: 8})
	refuses(t, "two sectors", j, d, images(0, 25), api.ErrSpace)
	puts(t, "one sector", j, images(0, 1), list(0), journal.At{Seg: 5, Off: 24, Seq: 9})
	refuses(t, "none left", j, d, images(0, 1), api.ErrSpace)
	j.SetFree(list(2, 3))
	puts(t, "one free", j, images(2, 0), list(4+48+1, 4+48+2), journal.At{Seg: 2, Off: 3, Seq: 10, Free: list(3)})
}

// P14.2: a segment that is left keeps what is in it, and is not free again.
func TestRestOfASegment(t *testing.T) {
	j, d, was := made(t, geom(6, 24), journal.At{Seg: 4, Off: 20, Seq: 7, Free: list(2, 5)})
	puts(t, "not enough", j, images(4, 0), list(53, 54, 55, 56), journal.At{Seg: 2, Off: 5, Seq: 8, Free: list(5)})
	puts(t, "a mark", j, images(0, 1), list(0), journal.At{Seg: 2, Off: 6, Seq: 9, Free: list(5)})
	one, _, _ := group.Lay(7, images(4, 0))
	two, _, _ := group.Lay(8, images(0, 1))
	copy(was[52:], slices.Concat(one, two))
	holds(t, "two groups", d, was)
}

// P14.2: groups of one, two and three parts: the numbers go on by their parts, behind the greatest at 0, and each sector has its own.
func TestNumbers(t *testing.T) {
	for _, c := range []struct {
		l     []api.Item
		parts uint32
		n     int
	}{{images(0, 1), 1, 1}, {images(20, 4), 1, 21}, {images(3, 22), 2, 5}, {turns(40), 2, 22}, {images(0, 48), 2, 2}, {images(0, 49), 3, 3}, {images(21, 28), 3, 24}, {images(1, 63), 3, 4}} {
		for _, seq := range []uint32{0, 7, 1<<31 - 1, math.MaxUint32 - 3, math.MaxUint32 - 2, math.MaxUint32 - 1, math.MaxUint32} {
			j, d, _ := made(t, geom(6, 24), journal.At{Seg: 1, Off: 0, Seq: seq, Free: list(0, 3)})
			places, e := j.Put(c.l)
			if e != api.OK {
				t.Fatalf("%d items: %d", len(c.l), e)
			}
			is(t, "parts", j, journal.At{Seg: 1, Off: c.n, Seq: seq + c.parts, Free: list(0, 3)})
			f, ok := group.Read(seq, read(t, d)[28:52])
			if !ok || f.Sectors != c.n || f.Parts != int(c.parts) || len(f.Items) != len(places) {
				t.Fatalf("%d items: %+v, %v", len(c.l), f, ok)
			}
			for i, at := range f.At {
				if at < 0 && places[i] != 0 || at >= 0 && places[i] != 28+at {
					t.Errorf("%d items: place %d is %d, not %d behind 28", len(c.l), i, places[i], at)
				}
			}
			puts(t, "the next one", j, images(0, 1), list(0), next(c.n, journal.At{Seg: 1, Off: c.n + 1, Seq: seq + c.parts + 1, Free: list(0, 3)}))
		}
	}
}

// next is a, or behind a full segment (n sectors of 24), one sector in the least free one.
func next(n int, a journal.At) journal.At {
	if n < 24 {
		return a
	}
	return journal.At{Seg: a.Free[0], Off: 1, Seq: a.Seq, Free: a.Free[1:]}
}

// P14.2: the device failing at each write and at the flush, in the same segment and in the next one: all is as it was, but what was written in order, and the next Put writes where this one would have.
func TestFailures(t *testing.T) {
	for _, c := range []struct {
		a     journal.At
		l     []api.Item
		first int
		then  journal.At
	}{
		{journal.At{Seg: 1, Off: 3, Seq: 7, Free: list(0, 2)}, images(3, 1), 31, journal.At{Seg: 1, Off: 7, Seq: 8, Free: list(0, 2)}},
		{journal.At{Seg: 1, Off: 20, Seq: 7}, images(3, 0), 48, journal.At{Seg: 1, Off: 24, Seq: 8}},
		{journal.At{Seg: 1, Off: 21, Seq: 7, Free: list(0, 2)}, images(3, 0), 4, journal.At{Seg: 0, Off: 4, Seq: 8, Free: list(2)}},
		{journal.At{Seg: 1, Off: 24, Seq: 7, Free: list(4)}, images(0, 1), 100, journal.At{Seg: 4, Off: 1, Seq: 8}},
		{journal.At{Seg: 1, Off: 0, Seq: math.MaxUint32, Free: list(4)}, images(20, 5), 28, journal.At{Seg: 1, Off: 22, Seq: 1, Free: list(4)}},
		{journal.At{Seg: 1, Off: 1, Seq: math.MaxUint32 - 1, Free: list(0, 2, 3, 4, 5)}, images(21, 28), 4, journal.At{Seg: 0, Off: 24, Seq: 1, Free: list(2, 3, 4, 5)}},
	} {
		own, at, _ := group.Lay(c.a.Seq, c.l)
		var places []int
		for _, k := range at {
			places = append(places, max(0, c.first+k))
			if k < 0 {
				places[len(places)-1] = 0
			}
		}
		for n := range len(own) + 1 {
			failing(t, n, c.a, c.then, c.l, own, places, c.first)
		}
		j, d, _ := made(t, geom(6, 24), c.a)
		d.Fail(len(own) + 1)
		puts(t, "the failure is behind it", j, c.l, places, c.then)
		refusesOnce(t, j, d)
	}
}

// refusesOnce holds a device that fails at the next write: of a Put that has room in a free segment, or where it is.
func refusesOnce(t *testing.T, j *journal.Journal, d *dev.Dev) {
	t.Helper()
	a := j.At()
	want := api.ErrDevice
	if a.Off == 24 && len(a.Free) == 0 {
		want = api.ErrSpace
	}
	if places, e := j.Put(images(0, 1)); e != want || len(places) != 0 {
		t.Errorf("at %+v: %v, %d, not %d", a, places, e, want)
	}
	is(t, "the one that fails", j, a)
}

// failing puts a group while the device fails behind n writes, and again.
func failing(t *testing.T, n int, a, then journal.At, l []api.Item, own []api.Sector, places []int, first int) {
	t.Helper()
	j, d, was := made(t, geom(6, 24), a)
	done := d.Done()
	d.Fail(n)
	if got, e := j.Put(l); e != api.ErrDevice || len(got) != 0 {
		t.Errorf("failing behind %d: %v, %d", n, got, e)
	}
	is(t, "failing", j, a)
	if d.Loose() != n || d.Done() != done+n {
		t.Errorf("failing behind %d: %d loose, %d went through", n, d.Loose(), d.Done()-done)
	}
	part := slices.Clone(was)
	copy(part[first:], own[:n])
	holds(t, "failing", d, part)
	puts(t, "again", j, l, places, then)
	copy(was[first:], own)
	d.Crash(nil)
	holds(t, "again", d, was)
}

// P14.2: each failure is told, however often; then another group goes where the first one would have, over what lies there.
func TestFailuresAgainAndAgain(t *testing.T) {
	j, d, was := made(t, geom(6, 24), journal.At{Seg: 1, Off: 22, Seq: 7, Free: list(3, 4)})
	for n := range 9 {
		d.Fail(n)
		if places, e := j.Put(images(7, 0)); e != api.ErrDevice || len(places) != 0 {
			t.Errorf("failing behind %d: %v, %d", n, places, e)
		}
		is(t, "failing", j, journal.At{Seg: 1, Off: 22, Seq: 7, Free: list(3, 4)})
	}
	puts(t, "a smaller one", j, images(1, 0), list(51), journal.At{Seg: 1, Off: 24, Seq: 8, Free: list(3, 4)})
	small, _, _ := group.Lay(7, images(1, 0))
	lies, _, _ := group.Lay(7, images(7, 0))
	copy(was[4+3*24:], lies)
	copy(was[50:], small)
	d.Crash(nil)
	holds(t, "what lies there", d, was)
	puts(t, "over it", j, turns(4), list(77, 0, 78, 0), journal.At{Seg: 3, Off: 3, Seq: 9, Free: list(4)})
	over, _, _ := group.Lay(8, turns(4))
	copy(was[4+3*24:], over)
	d.Crash(nil)
	holds(t, "over it", d, was)
}

// P14.2: what was loose ahead of a Put is flushed with it; a crash ahead of the flush leaves any of its sectors, and what was put ahead.
func TestCrashes(t *testing.T) {
	for keep := range 16 {
		j, d, was := made(t, geom(6, 24), journal.At{Seg: 1, Off: 0, Seq: 7, Free: list(3)})
		d.Write(0, api.Sector{1, 2, 3})
		puts(t, "ahead", j, images(2, 0), list(29, 30), journal.At{Seg: 1, Off: 3, Seq: 8, Free: list(3)})
		was[0] = api.Sector{1, 2, 3}
		own, _, _ := group.Lay(7, images(2, 0))
		copy(was[28:], own)
		d.Fail(4)
		j.Put(images(3, 0))
		bits := []byte{byte(keep), byte(keep >> 1), byte(keep >> 2), byte(keep >> 3)}
		d.Crash(bits)
		own, _, _ = group.Lay(8, images(3, 0))
		for i, x := range bits {
			if x%2 == 1 {
				was[31+i] = own[i]
			}
		}
		holds(t, "behind the crash", d, was)
	}
}

// P14.1: the device is kept, and no other one is written; a journal on the same device, made where the first one is, goes on like it.
func TestDevices(t *testing.T) {
	one, d, was := made(t, geom(6, 24), journal.At{Seg: 1, Off: 3, Seq: 7, Free: list(0, 2)})
	_, other, as := made(t, geom(6, 24), journal.At{Seg: 1, Off: 3, Seq: 7, Free: list(0, 2)})
	puts(t, "one", one, images(2, 0), list(32, 33), journal.At{Seg: 1, Off: 6, Seq: 8, Free: list(0, 2)})
	holds(t, "the other device", other, as)
	two := on(t, d, geom(6, 24), one.At())
	puts(t, "two", two, images(1, 0), list(35), journal.At{Seg: 1, Off: 8, Seq: 9, Free: list(0, 2)})
	is(t, "one", one, journal.At{Seg: 1, Off: 6, Seq: 8, Free: list(0, 2)})
	first, _, _ := group.Lay(7, images(2, 0))
	second, _, _ := group.Lay(8, images(1, 0))
	copy(was[31:], slices.Concat(first, second))
	holds(t, "both", d, was)
	d, _ = device(t, 1024)
	wide := on(t, d, geom(6, 24), journal.At{Seg: 5, Off: 23, Seq: 7})
	puts(t, "a device with more sectors", wide, images(0, 1), list(0), journal.At{Seg: 5, Off: 24, Seq: 8})
	refuses(t, "beyond the last segment", wide, d, images(0, 1), api.ErrSpace)
}

// plain is a journal that goes through its segments sector by sector.
type plain struct {
	g       api.Geom
	a       journal.At
	sectors []api.Sector
	owner   []int // of each sector, which Put wrote it; 0: none
}

// fits tells whether a group of n sectors ends in the segment.
func (p *plain) fits(n int) bool { return p.a.Off+n <= p.g.SegLen }

func (p *plain) put(nth int, l []api.Item) ([]int, api.Errno) {
	own, at, e := group.Lay(p.a.Seq, l)
	if e != api.OK || len(own) > p.g.SegLen {
		return nil, api.ErrArg
	}
	if !p.fits(len(own)) {
		if len(p.a.Free) == 0 {
			return nil, api.ErrSpace
		}
		p.a.Seg, p.a.Off = slices.Min(p.a.Free), 0
		p.a.Free = slices.DeleteFunc(slices.Clone(p.a.Free), func(s int) bool { return s == p.a.Seg })
	}
	places := make([]int, len(l))
	for k, s := range own {
		place := 4 + p.a.Seg*p.g.SegLen + p.a.Off
		p.sectors[place], p.owner[place] = s, nth
		if i := slices.Index(at, k); i >= 0 {
			places[i] = place
		}
		p.a.Off++
	}
	p.a.Seq += uint32((len(l) + 23) / 24)
	return places, api.OK
}

// P14.2, P14.3: many groups one behind the other, segments set free now and then, errors between: held against the plain one; each group stands in one segment, and over none that was not set free.
func TestManyPuts(t *testing.T) {
	for k, g := range shapes() {
		a := journal.At{Seg: 2, Off: 5, Seq: math.MaxUint32 - 40, Free: others(g.Segs, 2)[1:4]}
		j, d, was := made(t, g, a)
		p := &plain{g: g, a: a, sectors: was, owner: make([]int, len(was))}
		turn := uint32(k + 1)
		counts := map[api.Errno]int{}
		for nth := 1; nth <= 700; nth++ {
			turn = turn*1664525 + 1013904223
			if turn>>28 == 3 {
				setFree(t, j, p, int(turn>>16))
			}
			l := turns(int(turn>>20) % 45)
			if turn>>29 == 2 {
				l = images(int(turn>>8)%g.SegLen, int(turn>>12)%30)
			}
			if turn>>27 == 7 {
				d.Fail(0)
				refusesOnFailure(t, j, p, l)
				d.Fail(-1)
			}
			before := slices.Clone(p.owner)
			want, we := p.put(nth, l)
			got, e := j.Put(l)
			if e != we || !slices.Equal(got, want) || !same(j.At(), p.a) {
				t.Fatalf("%+v, Put %d: %v, %d at %+v, not %v, %d at %+v", g, nth, got, e, j.At(), want, we, p.a)
			}
			counts[e]++
			stands(t, p, before, nth, len(l))
		}
		if counts[api.OK] < 100 || counts[api.ErrArg] == 0 || counts[api.ErrSpace] == 0 {
			t.Errorf("%+v: %v", g, counts)
		}
		d.Crash(nil)
		holds(t, "many", d, p.sectors)
	}
}

// setFree sets free, in both, those segments but the one that is written whose bits are set.
func setFree(t *testing.T, j *journal.Journal, p *plain, bits int) {
	t.Helper()
	var l []int
	for s := range p.g.Segs {
		if s != p.a.Seg && bits>>s&1 == 1 {
			l = append(l, s)
			from := 4 + s*p.g.SegLen
			clear(p.owner[from : from+p.g.SegLen])
		}
	}
	p.a.Free = l
	j.SetFree(l)
	is(t, "SetFree", j, p.a)
}

// refusesOnFailure puts on a device whose next write fails, which changes nothing.
func refusesOnFailure(t *testing.T, j *journal.Journal, p *plain, l []api.Item) {
	t.Helper()
	copied := plain{g: p.g, a: p.a, sectors: slices.Clone(p.sectors), owner: slices.Clone(p.owner)}
	_, want := copied.put(1, l)
	if want == api.OK {
		want = api.ErrDevice
	}
	if places, e := j.Put(l); e != want || len(places) != 0 {
		t.Errorf("failing: %v, %d, not %d", places, e, want)
	}
	is(t, "failing", j, p.a)
}

// stands holds the sectors of one Put: in one segment, none of them another's.
func stands(t *testing.T, p *plain, before []int, nth, items int) {
	t.Helper()
	segs := map[int]int{}
	for place, owner := range p.owner {
		if owner != nth {
			continue
		}
		segs[(place-4)/p.g.SegLen]++
		if before[place] != 0 {
			t.Errorf("Put %d: sector %d is that of Put %d", nth, place, before[place])
		}
	}
	if len(segs) > 1 {
		t.Errorf("Put %d of %d items: in segments %v", nth, items, segs)
	}
}

// P14.3: groups of each number of sectors, put till there is no room: group.Read finds each by its number within one segment, where it was told to be.
func TestOneSegment(t *testing.T) {
	for _, g := range []api.Geom{geom(6, 24), geom(8, 29), geom(6, 32)} {
		for n := 1; n <= g.SegLen; n++ {
			l := sized(n)
			j, d, _ := made(t, g, journal.At{Seg: 0, Off: 0, Seq: 7, Free: others(g.Segs, 0)})
			groups, want := 0, g.Segs*(g.SegLen/n)
			for groups <= want { // one more than may be, and no further
				seq := j.At().Seq
				_, e := j.Put(l)
				if e == api.ErrSpace {
					break
				}
				a := j.At()
				end := 4 + a.Seg*g.SegLen + a.Off
				f, ok := group.Read(seq, read(t, d)[max(4+a.Seg*g.SegLen, end-n):end])
				if e != api.OK || !ok || f.Sectors != n || len(f.Items) != len(l) {
					t.Fatalf("%d sectors: %d; %d, %v", n, e, f.Sectors, ok)
				}
				groups++
			}
			if groups != want {
				t.Errorf("%+v, %d sectors: %d groups, not %d", g, n, groups, want)
			}
		}
	}
}

// spare are all of a list's room, and what is in it.
func spare[T any](l []T) []T { return l[:cap(l)] }

func alike(a, b api.Item) bool {
	x, y := a.Block, b.Block
	return a.Mark == b.Mark && x.Kind == y.Kind && x.Id == y.Id && x.Page == y.Page && x.Off == y.Off && bytes.Equal(spare(x.Bytes), spare(y.Bytes)) && x.Prev == y.Prev && x.Heads == y.Heads
}

// Rule 2: no call changes what it is given, nor its spare room, that of the blocks' Bytes included.
func TestNothingChanged(t *testing.T) {
	room := []int{0, 2, 4, 5, 77, -3, 9}
	was := slices.Clone(room)
	for i := range room {
		a := journal.At{Seg: 1, Off: 24, Seq: 7, Free: room[:i]}
		journal.Good(geom(6, 24), a)
		d, _ := device(t, 148)
		j, e := journal.New(d, geom(6, 24), a)
		if (e == api.OK) != (i <= 4) {
			t.Errorf("%d free ones: %d", i, e)
		}
		for k := range room {
			j.SetFree(room[:k])
			j.Put(images(20, 0))
		}
	}
	if !slices.Equal(room, was) {
		t.Errorf("%v, not %v", room, was)
	}
	texts := bytes.Repeat([]byte{1, 2, 3, 4}, 10)
	items := append(turns(12), free(0), image(1), api.Item{Mark: api.Mark{Kind: -1}, Block: api.Block{Off: 5}})
	for i := range items {
		if items[i].Kind == 2 {
			items[i].Block.Bytes = texts[4:6]
		}
	}
	before := slices.Clone(items)
	for n := range items {
		j, d, _ := made(t, geom(6, 24), journal.At{Seg: 1, Off: 20, Seq: 7, Free: list(3)})
		d.Fail(2)
		j.Put(items[:n])
		j.Put(items[:n])
	}
	if !slices.EqualFunc(items, before, alike) || !bytes.Equal(texts, bytes.Repeat([]byte{1, 2, 3, 4}, 10)) {
		t.Errorf("%+v, not %+v; %v", items, before, texts)
	}
}

func fill(l []int, n int) {
	for i := range spare(l) {
		spare(l)[i] = n
	}
}

// Rule 2: the lists that New and SetFree have are not kept: what is written into them later changes nothing.
func TestListsAreNotKept(t *testing.T) {
	for n := range 6 {
		want := journal.At{Seg: 5, Off: 24, Seq: 7, Free: list(0, 1, 2, 3, 4)[:n]}
		for _, room := range []int{0, 1, 9} {
			given := make([]int, n, n+room)
			copy(given, want.Free)
			j, _, _ := made(t, geom(6, 24), journal.At{Seg: 5, Off: 24, Seq: 7, Free: given})
			fill(given, -9)
			is(t, "New", j, want)
			given = append(make([]int, 0, n+room), want.Free...)
			j.SetFree(nil)
			j.SetFree(given)
			fill(given, -9)
			is(t, "SetFree", j, want)
			if n > 0 {
				puts(t, "Put", j, images(0, 1), list(0), journal.At{Seg: 0, Off: 1, Seq: 8, Free: want.Free[1:]})
				fill(given, -8)
				is(t, "Put", j, journal.At{Seg: 0, Off: 1, Seq: 8, Free: want.Free[1:]})
			}
		}
	}
}

// Rule 2: what At tells shares no memory, spare room too, with the journal's own, nor with another answer.
func TestNewMemoryOfAt(t *testing.T) {
	for n := range 6 {
		want := journal.At{Seg: 5, Off: 24, Seq: 7, Free: list(0, 1, 2, 3, 4)[:n]}
		j, d, _ := made(t, geom(6, 24), want)
		for nth := range 2*n + 2 {
			one, two := j.At(), j.At()
			fill(one.Free, -9)
			if !same(two, want) {
				t.Errorf("shared: %+v, not %+v", two, want)
			}
			is(t, "At", j, want)
			if nth%2 == 0 { // behind each Put once more, with one that fails ahead of it
				d.Fail(0)
				j.Put(sized(24))
				d.Fail(-1)
				is(t, "failing", j, want)
				continue
			}
			if _, e := j.Put(sized(24)); len(want.Free) == 0 && e == api.ErrSpace {
				continue
			}
			want = journal.At{Seg: want.Free[0], Off: 24, Seq: want.Seq + 1, Free: want.Free[1:]}
			is(t, "Put", j, want)
			fill(two.Free, -7)
			is(t, "Put", j, want)
		}
	}
}

// Rule 2: what Put tells shares no memory, spare room too, with the journal's own or the device's, with another answer, nor with the items.
func TestNewMemoryOfPut(t *testing.T) {
	j, d, was := made(t, geom(6, 24), journal.At{Seg: 1, Off: 0, Seq: 7, Free: list(0, 2, 3)})
	given := turns(8)
	own, _, _ := group.Lay(7, turns(8))
	one, _ := j.Put(given)
	for i := range given {
		clear(spare(given[i].Block.Bytes))
	}
	clear(spare(given))
	copy(was[28:], own)
	holds(t, "items cleared", d, was)
	own, _, _ = group.Lay(8, turns(8))
	two, _ := j.Put(turns(8))
	fill(one, -5)
	if want := list(34, 0, 35, 0, 36, 0, 37, 0); !slices.Equal(two, want) {
		t.Errorf("shared: %v, not %v", two, want)
	}
	copy(was[33:], own)
	holds(t, "places filled", d, was)
	is(t, "places filled", j, journal.At{Seg: 1, Off: 10, Seq: 9, Free: list(0, 2, 3)})
}

// Rule 4: what was asked before, of another journal too, changes no answer.
func TestAnswersStay(t *testing.T) {
	for range 3 {
		a := journal.At{Seg: 1, Off: 3, Seq: 7, Free: list(0, 2)}
		j, d, _ := made(t, geom(6, 24), a)
		puts(t, "a mark", j, images(0, 1), list(0), journal.At{Seg: 1, Off: 4, Seq: 8, Free: list(0, 2)})
		refuses(t, "none", j, d, nil, api.ErrArg)
		good(t, geom(6, 24), a, true)
		good(t, geom(5, 24), a, false)
		puts(t, "an image", j, images(1, 0), list(33), journal.At{Seg: 1, Off: 6, Seq: 9, Free: list(0, 2)})
	}
}
