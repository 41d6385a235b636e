package group_test

import (
	"bytes"
	"math"
	"slices"
	"testing"

	"silt/api"
	"silt/block"
	"silt/group"
	"silt/summary"
)

func image(id, n int) api.Item {
	return api.Item{Mark: api.Mark{Kind: 1, Id: id}, Block: api.Block{Kind: 1, Id: id, Page: api.Page{byte(n), byte(id), 31: 5}}}
}

func delta(id, n int) api.Item {
	return api.Item{Mark: api.Mark{Kind: 2, Id: id}, Block: api.Block{Kind: 2, Id: id, Off: n % 16, Bytes: bytes.Repeat([]byte{byte(n)}, 1+id%16), Prev: 4 + n%1000}}
}

func mapping(id, n int) api.Item {
	return api.Item{Mark: api.Mark{Kind: 3, Id: id}, Block: api.Block{Kind: 3, Id: id, Heads: [8]int{0, 1, 4 + n%1000, 1023, 7: 9}}}
}

func alloc(id int) api.Item { return api.Item{Mark: api.Mark{Kind: 4, Id: id}} }

func free(id int) api.Item { return api.Item{Mark: api.Mark{Kind: 5, Id: id}} }

// item is one of a kind, with the block that it needs, if a kind needs one.
func item(kind, id, n int) api.Item {
	switch kind {
	case 1:
		return image(id, n)
	case 2:
		return delta(id, n)
	case 3:
		return mapping(id, n)
	}
	return api.Item{Mark: api.Mark{Kind: kind, Id: id}}
}

// turns are n items, 64 at most, all kinds by turns, the last 8 of 64 being mapping pages; which pages stand where hangs on n.
func turns(n int) []api.Item {
	var l []api.Item
	for i := range n {
		id := (11*i + n) % 64
		if i%8 == 7 {
			l = append(l, mapping(i/8, n))
			continue
		}
		l = append(l, item([]int{1, 4, 2, 5}[(i+n)%4], id, i+n))
	}
	return l
}

// only are n items of one kind.
func only(kind, n int) []api.Item {
	var l []api.Item
	for i := range n {
		l = append(l, item(kind, i, i+1))
	}
	return l
}

// pagesAndMaps are n items, 72 at most, no two of one page or mapping page.
func pagesAndMaps(n int) []api.Item {
	var l []api.Item
	for i := range n {
		if i < 8 {
			l = append(l, mapping(i, i))
		} else {
			l = append(l, image(i-8, i))
		}
	}
	return l
}

// edges are numbers of items about which a part or a group ends.
func edges() []int { return []int{1, 2, 23, 24, 25, 47, 48, 49, 63, 64} }

// numbers are first numbers, some of which go on at 0.
func numbers() []uint32 {
	return []uint32{0, 1, 255, 256, 0x01020304, 1<<31 - 1, 1 << 31, math.MaxUint32 - 2, math.MaxUint32 - 1, math.MaxUint32}
}

// far are numbers that no field may have, though their lowest bits may.
func far() []int {
	return []int{math.MinInt, math.MinInt + 1, math.MinInt + 5, math.MinInt32, -1 << 16, -256, -255, -251, -64, -8, -5, -3, -2, -1, 256, 257, 259, 261, 1 << 16, 1<<16 + 1, 1<<32 + 1, 1<<32 + 3, 1<<32 + 4, 1 << 62, math.MaxInt - 1, math.MaxInt}
}

// alike tells whether items are the same in all fields; nil and empty Bytes are one.
func alike(a, b api.Item) bool {
	x, y := a.Block, b.Block
	return a.Mark == b.Mark && x.Kind == y.Kind && x.Id == y.Id && x.Page == y.Page && x.Off == y.Off && bytes.Equal(x.Bytes, y.Bytes) && x.Prev == y.Prev && x.Heads == y.Heads
}

func same(a, b group.Found) bool {
	return slices.EqualFunc(a.Items, b.Items, alike) && slices.Equal(a.At, b.At) && a.Sectors == b.Sectors && a.Parts == b.Parts
}

// head is a summary's sector, whatever it says.
func head(seq uint32, more bool, part []api.Item) api.Sector {
	s := summary.Summary{Seq: seq, More: more}
	for _, x := range part {
		s.Marks = append(s.Marks, x.Mark)
	}
	x, _ := summary.Encode(s)
	return x
}

func body(seq uint32, b api.Block) api.Sector {
	x, _ := block.Encode(b, seq)
	return x
}

// part is a summary's sector, and those of its items' blocks.
func part(seq uint32, more bool, l []api.Item) []api.Sector {
	out := []api.Sector{head(seq, more, l)}
	for _, x := range l {
		if x.Kind <= 3 {
			out = append(out, body(seq, x.Block))
		}
	}
	return out
}

// laid is what a group that may be comes to.
func laid(seq uint32, l []api.Item) ([]api.Sector, group.Found) {
	var out []api.Sector
	f := group.Found{Items: l}
	for len(l) > 24 {
		out = append(out, part(seq, true, l[:24])...)
		l = l[24:]
		f.Parts++
		seq++
	}
	out = append(out, part(seq, false, l)...)
	f.Parts++
	f.Sectors = len(out)
	at := 0
	for i, x := range f.Items {
		if i%24 == 0 {
			at++
		}
		f.At = append(f.At, -1)
		if x.Kind <= 3 {
			f.At[i] = at
			at++
		}
	}
	return out, f
}

// find is the group with which sectors begin, each thing that is asked of one asked by itself.
func find(seq uint32, l []api.Sector) (group.Found, bool) {
	var f group.Found
	taken := map[api.Mark]bool{}
	for more := true; more; seq++ {
		if f.Sectors >= len(l) {
			return group.Found{}, false
		}
		s, e := summary.Decode(l[f.Sectors])
		f.Sectors++
		f.Parts++
		if e != api.OK || s.Seq != seq || s.More && len(s.Marks) != 24 {
			return group.Found{}, false
		}
		more = s.More
		for _, m := range s.Marks {
			x, at := api.Item{Mark: m}, -1
			if m.Kind <= 3 {
				if f.Sectors >= len(l) {
					return group.Found{}, false
				}
				b, n, e := block.Decode(l[f.Sectors])
				if e != api.OK || n != seq || b.Kind != m.Kind || b.Id != m.Id {
					return group.Found{}, false
				}
				x.Block, at = b, f.Sectors
				f.Sectors++
			}
			own := api.Mark{Kind: 1, Id: m.Id}
			if m.Kind == 3 {
				own.Kind = 3
			}
			if taken[own] || len(f.Items) == 64 {
				return group.Found{}, false
			}
			taken[own] = true
			f.Items, f.At = append(f.Items, x), append(f.At, at)
		}
	}
	return f, true
}

// may holds that items may be a group: how great it is, its sectors, and that they are read again.
func may(t *testing.T, name string, seq uint32, l []api.Item) []api.Sector {
	t.Helper()
	want, f := laid(seq, l)
	got, at, e := group.Lay(seq, l)
	if e != api.OK || !slices.Equal(got, want) || !slices.Equal(at, f.At) {
		t.Errorf("%s: Lay %d, %+v: %v, %v, %v, not %v, %v", name, seq, l, got, at, e, want, f.At)
	}
	if n := group.Size(l); n != f.Sectors {
		t.Errorf("%s: Size %+v: %d, not %d", name, l, n, f.Sectors)
	}
	if n := group.Parts(l); n != f.Parts {
		t.Errorf("%s: Parts %+v: %d, not %d", name, l, n, f.Parts)
	}
	reads(t, name, seq, got, f)
	return want
}

// mayNot holds that items may be no group.
func mayNot(t *testing.T, name string, l []api.Item) {
	t.Helper()
	for _, seq := range []uint32{0, 9, math.MaxUint32} {
		if s, at, e := group.Lay(seq, l); e != api.ErrArg || len(s) != 0 || len(at) != 0 {
			t.Errorf("%s: Lay %d, %+v: %v, %v, %v", name, seq, l, s, at, e)
		}
	}
	if n := group.Size(l); n != 0 {
		t.Errorf("%s: Size %+v: %d", name, l, n)
	}
	if n := group.Parts(l); n != 0 {
		t.Errorf("%s: Parts %+v: %d", name, l, n)
	}
}

// reads holds that sectors begin with a group.
func reads(t *testing.T, name string, seq uint32, l []api.Sector, want group.Found) {
	t.Helper()
	if f, ok := group.Read(seq, l); !ok || !same(f, want) {
		t.Errorf("%s: Read %d, %v: %+v, %v, not %+v", name, seq, l, f, ok, want)
	}
}

// none holds that sectors begin with no group of that number.
func none(t *testing.T, name string, seq uint32, l []api.Sector) {
	t.Helper()
	if f, ok := group.Read(seq, l); ok || !same(f, group.Found{}) {
		t.Errorf("%s: Read %d, %v: %+v, %v", name, seq, l, f, ok)
	}
}

// asked holds that Read tells what is there, be it a group or none, and tells which.
func asked(t *testing.T, name string, seq uint32, l []api.Sector) bool {
	t.Helper()
	want, is := find(seq, l)
	if is {
		reads(t, name, seq, l, want)
	} else {
		none(t, name, seq, l)
	}
	return is
}

// with is a copy of l with x at i.
func with[T any](l []T, i int, x T) []T {
	c := slices.Clone(l)
	c[i] = x
	return c
}

// P13.1, P13.2: groups written out, byte by byte.
func TestWrittenOut(t *testing.T) {
	five := []api.Item{
		{Mark: api.Mark{Kind: 5, Id: 25}},
		{Mark: api.Mark{Kind: 2, Id: 22}, Block: api.Block{Kind: 2, Id: 22, Off: 30, Bytes: []byte{7, 8}, Prev: 0x0302}},
		{Mark: api.Mark{Kind: 3, Id: 6}, Block: api.Block{Kind: 3, Id: 6, Heads: [8]int{0, 1, 4, 0x0103, 7: 1023}}},
		{Mark: api.Mark{Kind: 4, Id: 63}},
		{Mark: api.Mark{Kind: 1, Id: 21}, Block: api.Block{Kind: 1, Id: 21, Page: api.Page{9, 31: 6}}},
	}
	frees := only(5, 25)
	marks := api.Sector{0x53, 1, 255, 255, 255, 255, 24}
	for i := range 24 {
		marks[7+2*i], marks[8+2*i] = 5, byte(i)
	}
	for _, c := range []struct {
		name    string
		seq     uint32
		l       []api.Item
		sectors []api.Sector
		at      []int
		parts   int
	}{
		{"one mark Free", 0x44332211, []api.Item{{Mark: api.Mark{Kind: 5, Id: 5}}}, []api.Sector{{0x53, 0, 0x11, 0x22, 0x33, 0x44, 1, 5, 5}}, []int{-1}, 1},
		{"five kinds", 0x44332211, five, []api.Sector{
			{0x53, 0, 0x11, 0x22, 0x33, 0x44, 5, 5, 25, 2, 22, 3, 6, 4, 63, 1, 21},
			{2, 22, 0x11, 0x22, 0x33, 0x44, 30, 2, 7, 8, 24: 2, 25: 3},
			{3, 6, 0x11, 0x22, 0x33, 0x44, 0, 0, 1, 0, 4, 0, 3, 1, 20: 255, 21: 3},
			{1, 21, 0x11, 0x22, 0x33, 0x44, 9, 37: 6},
		}, []int{-1, 1, 2, -1, 3}, 1},
		{"two parts", math.MaxUint32, append(frees[:24:24], image(63, 0)),
			[]api.Sector{marks, {0x53, 0, 0, 0, 0, 0, 1, 1, 63}, {1, 63, 0, 0, 0, 0, 0, 63, 37: 5}}, append(slices.Repeat([]int{-1}, 24), 2), 2},
	} {
		s, at, e := group.Lay(c.seq, c.l)
		if e != api.OK || !slices.Equal(s, c.sectors) || !slices.Equal(at, c.at) {
			t.Errorf("%s: %v, %v, %v, not %v, %v", c.name, s, at, e, c.sectors, c.at)
		}
		if group.Size(c.l) != len(c.sectors) || group.Parts(c.l) != c.parts {
			t.Errorf("%s: Size %d, Parts %d", c.name, group.Size(c.l), group.Parts(c.l))
		}
		reads(t, c.name, c.seq, c.sectors, group.Found{Items: c.l, At: c.at, Sectors: len(c.sectors), Parts: c.parts})
	}
}

// P13.1, P13.3: groups of each size, of all kinds by turns and of one, with first numbers of all kinds.
func TestSizes(t *testing.T) {
	for n := 1; n <= 64; n++ {
		for _, seq := range numbers() {
			may(t, "turns", seq, turns(n))
			may(t, "pages and mapping pages", seq, pagesAndMaps(n))
			for _, kind := range []int{1, 2, 4, 5} {
				may(t, "one kind", seq, only(kind, n))
			}
			if n <= 8 {
				may(t, "mapping pages", seq, only(3, n))
			}
		}
	}
}

// P13.1: no items, and more than MaxPages, though no two of them are of one page.
func TestNumbersOfItems(t *testing.T) {
	mayNot(t, "nil", nil)
	mayNot(t, "no items", []api.Item{})
	mayNot(t, "no items, with room", turns(24)[:0])
	for n := 65; n <= 72; n++ {
		mayNot(t, "pages and mapping pages", pagesAndMaps(n))
		mayNot(t, "mapping pages last", append(pagesAndMaps(n)[8:], only(3, 8)...))
	}
	mayNot(t, "a mapping page behind all pages", append(only(5, 64), mapping(3, 1)))
	for _, n := range []int{65, 66, 72, 73, 96, 128, 255, 256, 257, 320, 1 << 16, 1<<16 + 1} {
		mayNot(t, "again and again", slices.Repeat(only(4, 64), n/64+1)[:n])
		mayNot(t, "one item", slices.Repeat([]api.Item{free(3)}, n))
		mayNot(t, "zeros", make([]api.Item, n))
	}
}

// among are items with x in each place that one of them may have, x's page being in no other of them.
func among(x api.Item) [][]api.Item {
	out := [][]api.Item{{x}}
	for _, n := range []int{2, 24, 25, 64} {
		l := slices.DeleteFunc(only(5, 64), func(y api.Item) bool { return y.Id == x.Id })[:n-1]
		for _, i := range []int{0, n / 2, n - 1} {
			out = append(out, slices.Insert(slices.Clone(l), i, x))
		}
	}
	return out
}

// P13.1: kinds, from Image to Free, with a block of that kind and without one.
func TestKinds(t *testing.T) {
	all := far()
	for kind := -3; kind <= 300; kind++ {
		all = append(all, kind)
	}
	for _, kind := range all {
		for _, id := range []int{0, 1, 7} {
			for _, l := range among(item(kind, id, 9)) {
				if kind >= 1 && kind <= 5 {
					may(t, "kind", 7, l)
				} else {
					mayNot(t, "kind", l)
				}
			}
			if kind < 1 || kind > 3 {
				mayNot(t, "a block of that kind", []api.Item{{Mark: api.Mark{Kind: kind, Id: id}, Block: api.Block{Kind: kind, Id: id, Page: api.Page{1}}}})
			}
			for own := -1; own <= 6; own++ {
				l := []api.Item{{Mark: api.Mark{Kind: kind, Id: id}, Block: item(own, id, 9).Block}}
				switch {
				case kind >= 1 && kind <= 3 && own == kind, kind >= 4 && kind <= 5 && (own < 1 || own > 3):
					may(t, "a block of another kind", 7, l)
				default:
					mayNot(t, "a block of another kind", l)
				}
			}
		}
	}
}

// P13.1: Ids, from 0 to the last page, or the last mapping page.
func TestIds(t *testing.T) {
	all := far()
	for id := -3; id <= 300; id++ {
		all = append(all, id)
	}
	for kind, last := range []int{1: 63, 2: 63, 3: 7, 4: 63, 5: 63} {
		if kind == 0 {
			continue
		}
		for _, id := range all {
			x := item(kind, 0, 9)
			x.Mark.Id = id
			if kind <= 3 {
				x.Block.Id = id
			}
			for _, l := range among(x) {
				if id >= 0 && id <= last {
					may(t, "Id", 7, l)
				} else {
					mayNot(t, "Id", l)
				}
			}
		}
	}
}

// P13.1: a block of another Id than its mark, each of the two in its bounds or not.
func TestBlocksOfAnotherId(t *testing.T) {
	for kind := 1; kind <= 3; kind++ {
		ids := append(far(), 0, 1, 5, 6, 7, 8, 9, 31, 32, 62, 63, 64, 65)
		for _, a := range ids {
			for _, b := range ids {
				x := item(kind, 5, 9)
				x.Mark.Id, x.Block.Id = a, b
				if most := []int{1: 63, 2: 63, 3: 7}[kind]; a == b && a >= 0 && a <= most {
					may(t, "own Id", 7, []api.Item{x})
				} else {
					mayNot(t, "another Id", []api.Item{x})
					mayNot(t, "another Id, at the end", append(only(5, 4), x))
				}
			}
		}
	}
}

// P13.1: blocks that may not be, of each kind with one.
func TestBlocksThatMayNotBe(t *testing.T) {
	for i, change := range []struct {
		kinds []int
		of    func(b *api.Block)
	}{
		{[]int{1, 2, 3}, func(b *api.Block) { *b = api.Block{} }},
		{[]int{1, 2, 3}, func(b *api.Block) { b.Kind = 0 }},
		{[]int{1, 3}, func(b *api.Block) { b.Off = 1 }},
		{[]int{1, 3}, func(b *api.Block) { b.Off = math.MinInt }},
		{[]int{1, 3}, func(b *api.Block) { b.Bytes = []byte{0} }},
		{[]int{1, 3}, func(b *api.Block) { b.Prev = 4 }},
		{[]int{2, 3}, func(b *api.Block) { b.Page[31] = 1 }},
		{[]int{1, 2}, func(b *api.Block) { b.Heads[7] = 1 }},
		{[]int{3}, func(b *api.Block) { b.Heads[0] = 2 }},
		{[]int{3}, func(b *api.Block) { b.Heads[7] = 1024 }},
		{[]int{3}, func(b *api.Block) { b.Heads[3] = -1 }},
		{[]int{2}, func(b *api.Block) { b.Bytes = nil }},
		{[]int{2}, func(b *api.Block) { b.Bytes = make([]byte, 17) }},
		{[]int{2}, func(b *api.Block) { b.Off = 32 }},
		{[]int{2}, func(b *api.Block) { b.Off = -1 }},
		{[]int{2}, func(b *api.Block) { b.Off = math.MaxInt }},
		{[]int{2}, func(b *api.Block) { b.Prev = 0 }},
		{[]int{2}, func(b *api.Block) { b.Prev = 3 }},
		{[]int{2}, func(b *api.Block) { b.Prev = 1024 }},
	} {
		for _, kind := range change.kinds {
			x := item(kind, 5, 9)
			may(t, "as it was", 7, []api.Item{x})
			change.of(&x.Block)
			for _, l := range among(x) {
				mayNot(t, "block "+string(rune('a'+i)), l)
			}
		}
	}
}

// P13.1: Alloc and Free have a block that is zero in all its fields.
func TestMarksWithoutBlock(t *testing.T) {
	for _, kind := range []int{4, 5} {
		x := item(kind, 5, 0)
		x.Block.Bytes = make([]byte, 0, 8)
		for _, l := range among(x) {
			may(t, "empty Bytes", 7, l)
		}
		for i, change := range []func(b *api.Block){
			func(b *api.Block) { b.Kind = 1 },
			func(b *api.Block) { b.Kind = kind },
			func(b *api.Block) { b.Kind = -1 },
			func(b *api.Block) { b.Id = 1 },
			func(b *api.Block) { b.Id = 5 },
			func(b *api.Block) { b.Kind, b.Id = kind, 5 },
			func(b *api.Block) { b.Kind, b.Id = 1, 5 },
			func(b *api.Block) { b.Page[0] = 1 },
			func(b *api.Block) { b.Page[31] = 255 },
			func(b *api.Block) { b.Off = 1 },
			func(b *api.Block) { b.Off = -1 },
			func(b *api.Block) { b.Bytes = []byte{0} },
			func(b *api.Block) { b.Bytes = make([]byte, 1000) },
			func(b *api.Block) { b.Prev = 1 },
			func(b *api.Block) { b.Prev = math.MinInt },
			func(b *api.Block) { b.Heads[0] = 1 },
			func(b *api.Block) { b.Heads[7] = 4 },
			func(b *api.Block) { *b = image(5, 1).Block },
			func(b *api.Block) { *b = delta(5, 1).Block },
			func(b *api.Block) { *b = mapping(5, 1).Block },
		} {
			x := item(kind, 5, 0)
			change(&x.Block)
			for _, l := range among(x) {
				mayNot(t, "field "+string(rune('a'+i)), l)
			}
		}
	}
}

// P13.1: two marks of one page, of one kind and of two, or of one mapping page, near to each other and far apart; a page and a mapping page of one number may both be.
func TestTwoMarks(t *testing.T) {
	for _, id := range []int{0, 1, 6, 7} {
		others := slices.DeleteFunc(only(4, 64), func(x api.Item) bool { return x.Id == id })
		for a := 1; a <= 5; a++ {
			for b := 1; b <= 5; b++ {
				for _, n := range []int{2, 3, 24, 25, 30, 48, 49, 64} {
					for _, at := range [][2]int{{0, 1}, {0, n - 1}, {n - 2, n - 1}, {n / 3, n/3 + 1}, {1, n - 1}, {min(22, n-2), min(23, n-1)}, {min(23, n-2), min(24, n-1)}, {min(24, n-2), min(25, n-1)}, {min(23, n-2), n - 1}} {
						if at[0] == at[1] {
							continue
						}
						l := slices.Insert(slices.Clone(others[:n-2]), at[0], item(a, id, 3))
						l = slices.Insert(l, at[1], item(b, id, 4))
						if (a == 3) != (b == 3) {
							may(t, "a page and a mapping page", 7, l)
						} else {
							mayNot(t, "two marks", l)
						}
					}
				}
			}
		}
	}
	mayNot(t, "all twice", append(turns(32), turns(32)...))
	mayNot(t, "the last page twice", append(only(1, 63), alloc(0)))
	mayNot(t, "the last mapping page twice", []api.Item{mapping(7, 1), image(7, 1), free(63), mapping(7, 2)})
	may(t, "all mapping pages, and the pages of their numbers", 7, append(only(3, 8), only(2, 8)...))
	may(t, "pages of numbers that lie behind the mapping pages", 7, append(only(3, 8), alloc(8), free(56), image(57, 1), delta(63, 1)))
}

// P13.1: of parts that follow each other each sector has the part's number, behind the greatest one 0.
func TestNumbers(t *testing.T) {
	for _, c := range []struct {
		seq  uint32
		want [3]uint32
	}{
		{0, [3]uint32{0, 1, 2}},
		{1, [3]uint32{1, 2, 3}},
		{255, [3]uint32{255, 256, 257}},
		{math.MaxUint32 - 2, [3]uint32{math.MaxUint32 - 2, math.MaxUint32 - 1, math.MaxUint32}},
		{math.MaxUint32 - 1, [3]uint32{math.MaxUint32 - 1, math.MaxUint32, 0}},
		{math.MaxUint32, [3]uint32{math.MaxUint32, 0, 1}},
	} {
		for _, n := range edges() {
			l := only(1, n)
			sectors, at, e := group.Lay(c.seq, l)
			if e != api.OK || len(sectors) != n+(n+23)/24 {
				t.Fatalf("Lay %d, %d images: %d sectors, %v", c.seq, n, len(sectors), e)
			}
			for i, s := range sectors {
				number := uint32(s[2]) | uint32(s[3])<<8 | uint32(s[4])<<16 | uint32(s[5])<<24
				if want := c.want[i/25]; number != want {
					t.Errorf("%d images from %d on: sector %d has number %d, not %d", n, c.seq, i, number, want)
				}
				if i%25 == 0 && (s[0] != 0x53 || (s[1] == 1) != (i+25 < len(sectors)) || int(s[6]) != min(24, n-i/25*24)) {
					t.Errorf("%d images: sector %d is %v", n, i, s)
				}
			}
			for i := range l {
				if want := i + 1 + i/24; at[i] != want {
					t.Errorf("%d images: block %d is sector %d, not %d", n, i, at[i], want)
				}
			}
		}
	}
}

// P13.2: what stands behind a group changes nothing.
func TestBehind(t *testing.T) {
	for _, n := range edges() {
		for _, seq := range []uint32{0, 7, math.MaxUint32 - 1, math.MaxUint32} {
			l := turns(n)
			own, want := laid(seq, l)
			for i, behind := range [][]api.Sector{
				nil,
				{{}},
				make([]api.Sector, 100),
				{{0x53}},
				own,
				part(seq+uint32(want.Parts), false, only(5, 3)),
				part(seq+uint32(want.Parts), true, only(1, 24)),
				part(seq+uint32(want.Parts)-1, false, only(5, 3)),
				part(seq, false, pagesAndMaps(20)),
				{body(seq, image(3, 3).Block)},
				{body(seq+uint32(want.Parts)-1, delta(3, 3).Block), body(seq, mapping(3, 3).Block)},
				{{255, 255, 255, 63: 255}},
			} {
				reads(t, "behind "+string(rune('a'+i)), seq, slices.Concat(own, behind), want)
				if len(behind) > 0 {
					asked(t, "ahead", seq, slices.Concat(behind, own))
				}
			}
		}
	}
}

// P13.2, P13.3: with fewer sectors than it has there is no group.
func TestShort(t *testing.T) {
	for n := 1; n <= 64; n++ {
		for _, l := range [][]api.Item{turns(n), only(1, n), only(5, n), pagesAndMaps(n)} {
			own, _ := laid(9, l)
			for i := range own {
				none(t, "short", 9, own[:i:i])
				none(t, "short, the rest in its room", 9, own[:i])
				none(t, "one left out", 9, slices.Delete(slices.Clone(own), i, i+1))
				none(t, "zeros from there on", 9, append(slices.Clone(own[:i]), make([]api.Sector, 70)...))
			}
		}
	}
	none(t, "nil", 0, nil)
	none(t, "no sectors", 0, []api.Sector{})
	none(t, "zeros", 0, make([]api.Sector, 3))
	none(t, "many zeros", 0, make([]api.Sector, 100000))
}

// P13.2: a group is one of its first number alone.
func TestOtherFirstNumbers(t *testing.T) {
	for _, n := range edges() {
		for _, seq := range numbers() {
			own, want := laid(seq, turns(n))
			for _, other := range append(numbers(), seq-2, seq-1, seq+1, seq+2, seq+1<<8, seq^1<<16, seq^1<<24, seq^1<<31) {
				if other == seq {
					reads(t, "its number", other, own, want)
				} else {
					none(t, "another number", other, own)
				}
			}
		}
	}
}

// renumbered is a sector with another number, and all else as it is.
func renumbered(s api.Sector, seq uint32) api.Sector {
	s[2], s[3], s[4], s[5] = byte(seq), byte(seq>>8), byte(seq>>16), byte(seq>>24)
	return s
}

// P13.2, P13.3: each sector turned into zeros, into another number's, into another sector of the group or of another one.
func TestOtherSectors(t *testing.T) {
	for _, n := range []int{1, 2, 23, 24, 25, 49, 64} {
		for _, seq := range []uint32{9, math.MaxUint32} {
			for _, l := range [][]api.Item{turns(n), pagesAndMaps(n)} {
				own, _ := laid(seq, l)
				for i, s := range own {
					none(t, "zeros", seq, with(own, i, api.Sector{}))
					none(t, "ones", seq, with(own, i, api.Sector(bytes.Repeat([]byte{255}, 64))))
					for _, other := range []uint32{seq - 1, seq, seq + 1, seq + 2, seq + 3, seq + 256, seq ^ 1<<31} {
						if x := renumbered(s, other); x != s {
							none(t, "another number", seq, with(own, i, x))
						}
					}
					for _, x := range own {
						if x != s {
							none(t, "another of its sectors", seq, with(own, i, x))
						}
					}
				}
			}
		}
	}
}

// P13.2, P13.3: each sector turned into one of another group, of that number or of another one.
func TestOtherGroupsSectors(t *testing.T) {
	is, not := 0, 0
	for _, n := range []int{1, 2, 24, 25, 49} {
		own, _ := laid(9, turns(n))
		for _, seq := range []uint32{8, 9, 10, 11} {
			for _, l := range [][]api.Item{turns(n + 1), only(1, n), only(2, n)} {
				other, _ := laid(seq, l)
				for i := range own {
					for _, x := range other {
						c := with(own, i, x)
						if asked(t, "another group's", 9, c) {
							is++
						} else {
							not++
						}
					}
				}
			}
		}
	}
	if is == 0 || not == 0 {
		t.Errorf("%d of %d are groups", is, is+not)
	}
}

// P13.2: each byte of a group turned, in each way for small groups, by each bit for great ones.
func TestOtherBytes(t *testing.T) {
	is, not := 0, 0
	bits, all := []byte{1, 2, 4, 8, 16, 32, 64, 128, 255}, []byte{}
	for x := 1; x < 256; x++ {
		all = append(all, byte(x))
	}
	for _, c := range []struct {
		l    []api.Item
		ways []byte
	}{
		{[]api.Item{free(5)}, all},
		{[]api.Item{image(3, 7), free(5), delta(2, 9), mapping(3, 1), alloc(63)}, all},
		{only(5, 24), all},
		{turns(24), bits},
		{turns(25), bits},
		{only(4, 49), bits},
		{turns(64), bits},
	} {
		own, _ := laid(0x01020304, c.l)
		for i := range own {
			for j := range own[i] {
				for _, x := range c.ways {
					own[i][j] ^= x
					if asked(t, "a byte turned", 0x01020304, own) {
						is++
					} else {
						not++
					}
					own[i][j] ^= x
				}
			}
		}
	}
	if is == 0 || not == 0 {
		t.Errorf("%d of %d are groups", is, is+not)
	}
}

// P13.2: parts that are one behind the other, and no group's.
func TestParts(t *testing.T) {
	for n := 1; n <= 24; n++ {
		for _, l := range [][]api.Item{only(5, n), only(1, n), turns(n)} {
			own := part(7, true, l)
			none(t, "More, and no next part", 7, own)
			none(t, "More, and zeros", 7, append(slices.Clone(own), make([]api.Sector, 3)...))
			none(t, "More, and a block", 7, append(slices.Clone(own), body(8, image(60, 1).Block)))
			next := []api.Item{free(60), delta(61, 3)}
			for _, other := range []uint32{0, 5, 6, 7, 9, 10, 8 + 256, 8 ^ 1<<31} {
				none(t, "a next part of another number", 7, slices.Concat(own, part(other, false, next)))
			}
			if last := slices.Concat(own, part(8, false, next)); n < 24 {
				none(t, "not full", 7, last)
			} else if !asked(t, "full", 7, last) {
				t.Errorf("full: no group: %v", last)
			}
			_, want := laid(7, l)
			reads(t, "no More", 7, slices.Concat(part(7, false, l), part(8, false, next)), want)
		}
	}
	three := [][]api.Item{only(5, 24), only(5, 48)[24:], only(5, 64)[48:]}
	none(t, "the second not full", 7, slices.Concat(part(7, true, three[0]), part(8, true, three[1][:23]), part(9, false, three[2])))
	none(t, "the third first", 7, slices.Concat(part(9, true, three[0]), part(8, true, three[1]), part(7, false, three[2])))
	none(t, "the second left out", 7, slices.Concat(part(7, true, three[0]), part(9, false, three[2])))
	none(t, "the first left out", 7, slices.Concat(part(8, true, three[1]), part(9, false, three[2])))
	none(t, "one number for all", 7, slices.Concat(part(7, true, three[0]), part(7, true, three[1]), part(7, false, three[2])))
	none(t, "numbers that fall", 7, slices.Concat(part(7, true, three[0]), part(6, true, three[1]), part(5, false, three[2])))
	none(t, "no end", 7, slices.Concat(part(7, true, three[0]), part(8, true, three[1]), part(9, true, three[2])))
}

// P13.2: more items than a group may have, no two of one page.
func TestTooManyItems(t *testing.T) {
	for n := 49; n <= 72; n++ {
		l := pagesAndMaps(n)
		own := slices.Concat(part(7, true, l[:24]), part(8, true, l[24:48]), part(9, false, l[48:]))
		if got := asked(t, "many", 7, own); got != (n <= 64) {
			t.Errorf("%d items: a group: %v", n, got)
		}
	}
	var long []api.Sector
	for i := range 2000 {
		long = append(long, part(uint32(i), true, only(4, 24))...)
	}
	none(t, "a part again and again", 0, long)
	for i := range long {
		long[i] = head(uint32(i), true, []api.Item{free(i % 64)})
	}
	none(t, "one mark again and again", 0, long)
}

// P13.2: a page twice, in one part or in two, and a mapping page twice; each part by itself is right.
func TestTwiceInSectors(t *testing.T) {
	for a := 1; a <= 5; a++ {
		for b := 1; b <= 5; b++ {
			for _, id := range []int{0, 7} {
				want := (a == 3) != (b == 3)
				if got := asked(t, "in one part", 7, part(7, false, []api.Item{item(a, id, 1), free(50), item(b, id, 2)})); got != want {
					t.Errorf("kinds %d, %d of %d in one part: a group: %v", a, b, id, got)
				}
				first := append(only(4, 43)[20:], item(a, id, 1))
				for _, second := range [][]api.Item{{item(b, id, 2)}, {free(50), item(b, id, 2), alloc(51)}} {
					if got := asked(t, "in two parts", 7, slices.Concat(part(7, true, first), part(8, false, second))); got != want {
						t.Errorf("kinds %d, %d of %d in two parts: a group: %v", a, b, id, got)
					}
				}
			}
		}
	}
}

// P13.2: blocks that are not their marks', in kind or in Id, or that stand in another order.
func TestOtherBlocks(t *testing.T) {
	for a := 1; a <= 3; a++ {
		for _, x := range []api.Item{item(a%3+1, 5, 1), item((a+1)%3+1, 5, 1), item(a, 4, 1), item(a, 6, 1)} {
			for _, l := range among(item(a, 5, 1)) {
				own, f := laid(7, l)
				i := slices.IndexFunc(f.At, func(at int) bool { return at >= 0 })
				seq := 7 + uint32(i/24)
				reads(t, "its own", 7, own, f)
				none(t, "another's", 7, with(own, f.At[i], body(seq, x.Block)))
				none(t, "a summary", 7, with(own, f.At[i], head(seq, false, []api.Item{x})))
				none(t, "one too many", 7, slices.Insert(slices.Clone(own), f.At[i], body(seq, x.Block)))
			}
		}
	}
	for _, n := range edges()[1:] {
		for _, l := range [][]api.Item{only(1, n), only(2, n), pagesAndMaps(n)} {
			own, f := laid(7, l)
			for i := range l[1:] {
				c := slices.Clone(own)
				c[f.At[i]], c[f.At[i+1]] = c[f.At[i+1]], c[f.At[i]]
				none(t, "two the other way round", 7, c)
			}
		}
	}
}

// spare are all of a list's room, and what is in it.
func spare[T any](l []T) []T { return l[:cap(l)] }

// Rule 2: no call changes what it is given, nor its spare room, that of the blocks' Bytes included.
func TestNothingChanged(t *testing.T) {
	for n := 0; n <= 66; n++ {
		texts := bytes.Repeat([]byte{1, 2, 3, 4}, 10)
		room := append(turns(min(n, 64)), free(0), image(1, 1), api.Item{Mark: api.Mark{Kind: -1}, Block: api.Block{Off: 5}})
		for i := range room {
			if room[i].Kind == 2 {
				room[i].Block.Bytes = texts[4:6]
			} else if room[i].Kind >= 4 {
				room[i].Block.Bytes = texts[4:4]
			}
		}
		was := slices.Clone(room)
		for i := range room {
			group.Size(room[:i])
			group.Parts(room[:i])
			group.Lay(7, room[:i])
		}
		if !slices.EqualFunc(room, was, alike) || !bytes.Equal(texts, bytes.Repeat([]byte{1, 2, 3, 4}, 10)) {
			t.Errorf("%d items: %+v, not %+v; %v", n, room, was, texts)
		}
		if n < 1 || n > 64 {
			continue
		}
		own, _ := laid(7, turns(n))
		sectors := append(own, api.Sector{1, 2, 3}, api.Sector{0x53})
		before := slices.Clone(sectors)
		for i := range sectors {
			group.Read(7, sectors[:i])
			group.Read(8, sectors[i:])
		}
		if !slices.Equal(sectors, before) {
			t.Errorf("%d items: %v, not %v", n, sectors, before)
		}
	}
}

// Rule 2: what Lay tells shares no memory, spare room too, with what is handed in, nor with another answer.
func TestNewMemoryOfLay(t *testing.T) {
	for _, n := range edges() {
		given := turns(n)
		want, f := laid(7, turns(n))
		one, at, _ := group.Lay(7, given)
		two, other, _ := group.Lay(7, given)
		for i := range spare(one) {
			spare(one)[i] = api.Sector{9, 9, 9}
		}
		for i := range spare(at) {
			spare(at)[i] = -5000
		}
		for i := range given {
			clear(spare(given[i].Block.Bytes))
		}
		clear(spare(given))
		if !slices.Equal(two, want) || !slices.Equal(other, f.At) {
			t.Errorf("%d items: shared: %v, %v", n, two, other)
		}
	}
}

// Rule 2: what Read tells shares no memory, spare room too, with what is handed in, with another answer, nor one list of it with another.
func TestNewMemoryOfRead(t *testing.T) {
	for _, n := range edges() {
		for _, l := range [][]api.Item{turns(n), only(2, n)} {
			given, want := laid(7, l)
			one, _ := group.Read(7, given)
			two, _ := group.Read(7, given)
			for i := range spare(one.Items) {
				x := &spare(one.Items)[i]
				for j := range spare(x.Block.Bytes) {
					spare(x.Block.Bytes)[j] = byte(100 + i)
				}
			}
			for i := range one.Items {
				if b := spare(one.Items[i].Block.Bytes); !bytes.Equal(b, bytes.Repeat([]byte{byte(100 + i)}, len(b))) {
					t.Errorf("%d items: Bytes of item %d shared: %v", n, i, b)
				}
			}
			for i := range spare(one.At) {
				spare(one.At)[i] = -5000
			}
			for i := range spare(one.Items) {
				spare(one.Items)[i] = api.Item{Mark: api.Mark{Kind: -5, Id: -6}, Block: api.Block{Off: -7}}
			}
			if !same(two, want) {
				t.Errorf("%d items: shared: %+v, not %+v", n, two, want)
			}
			if again, _ := laid(7, l); !slices.Equal(given, again) {
				t.Errorf("%d items: shared with what was handed in: %v", n, given)
			}
			clear(spare(given))
			if !same(two, want) {
				t.Errorf("%d items: shared: %+v, not %+v", n, two, want)
			}
		}
	}
}

// Rule 4: what was asked before changes no answer.
func TestAnswersStay(t *testing.T) {
	for range 3 {
		own := may(t, "ordinary", 7, turns(30))
		mayNot(t, "two marks", []api.Item{free(3), alloc(3)})
		none(t, "another number", 8, own)
		may(t, "another group", math.MaxUint32, turns(64))
		mayNot(t, "none", nil)
		none(t, "zeros", 7, make([]api.Sector, 3))
		may(t, "one mark", 8, []api.Item{free(3)})
	}
}
