package summary_test

import (
	"bytes"
	"math"
	"slices"
	"testing"

	"silt/api"
	"silt/block"
	"silt/summary"
)

// kinds are all that a mark may have, each with its last Id.
func kinds() []api.Mark {
	return []api.Mark{{Kind: 1, Id: 63}, {Kind: 2, Id: 63}, {Kind: 3, Id: 7}, {Kind: 4, Id: 63}, {Kind: 5, Id: 63}}
}

// marksOf are n marks, of all kinds by turns, none of them like the one ahead.
func marksOf(n int) []api.Mark {
	var l []api.Mark
	for i := range n {
		k := kinds()[i%5]
		l = append(l, api.Mark{Kind: k.Kind, Id: k.Id - i%8})
	}
	return l
}

// numbers are sequence numbers, each byte of them told from the others.
func numbers() []uint32 {
	return []uint32{0, 1, 255, 256, 0x01020304, 0x10000, 1 << 24, 1<<31 - 1, 1 << 31, math.MaxUint32 - 1, math.MaxUint32}
}

func same(a, b summary.Summary) bool {
	return a.Seq == b.Seq && a.More == b.More && slices.Equal(a.Marks, b.Marks)
}

// laid is the sector of a summary that may be, one byte behind the other.
func laid(s summary.Summary) (x api.Sector) {
	l := []byte{0x53, 0, byte(s.Seq % 256), byte(s.Seq / 256 % 256), byte(s.Seq / 65536 % 256), byte(s.Seq / 16777216), byte(len(s.Marks))}
	if s.More {
		l[1] = 1
	}
	for _, m := range s.Marks {
		l = append(l, byte(m.Kind), byte(m.Id))
	}
	copy(x[:], l)
	return x
}

// may holds that marks may be a summary's, and that its sector says it.
func may(t *testing.T, name string, marks []api.Mark) {
	t.Helper()
	for _, seq := range numbers() {
		for _, more := range []bool{false, true} {
			s := summary.Summary{Seq: seq, More: more, Marks: marks}
			x, e := summary.Encode(s)
			if e != api.OK {
				t.Errorf("%s: Encode %+v: %v", name, s, e)
			}
			if want := laid(s); x != want {
				t.Errorf("%s: Encode %+v: %v, not %v", name, s, x, want)
			}
			if back, e := summary.Decode(x); e != api.OK || !same(back, s) {
				t.Errorf("%s: Decode of Encode of %+v: %+v, %v", name, s, back, e)
			}
		}
	}
}

// mayNot holds that marks may be no summary's.
func mayNot(t *testing.T, name string, marks []api.Mark) {
	t.Helper()
	for _, seq := range []uint32{0, 7, math.MaxUint32} {
		for _, more := range []bool{false, true} {
			s := summary.Summary{Seq: seq, More: more, Marks: marks}
			if x, e := summary.Encode(s); e != api.ErrForm || x != (api.Sector{}) {
				t.Errorf("%s: Encode %+v: %v, %v", name, s, x, e)
			}
		}
	}
}

// none holds that x is no summary's sector.
func none(t *testing.T, name string, x api.Sector) {
	t.Helper()
	if s, e := summary.Decode(x); e != api.ErrForm || s.Seq != 0 || s.More || len(s.Marks) != 0 {
		t.Errorf("%s: Decode %v: %+v, %v", name, x, s, e)
	}
}

// P5.1: sectors written out byte by byte.
func TestSectors(t *testing.T) {
	for _, c := range []struct {
		name string
		s    summary.Summary
		x    api.Sector
	}{
		{"all kinds", summary.Summary{Seq: 0x44332211, Marks: []api.Mark{{Kind: 1, Id: 21}, {Kind: 2, Id: 22}, {Kind: 3, Id: 6}, {Kind: 4, Id: 24}, {Kind: 5, Id: 25}}},
			api.Sector{0x53, 0, 0x11, 0x22, 0x33, 0x44, 5, 1, 21, 2, 22, 3, 6, 4, 24, 5, 25}},
		{"all kinds and more", summary.Summary{Seq: 0x44332211, More: true, Marks: []api.Mark{{Kind: 5, Id: 25}, {Kind: 4, Id: 24}, {Kind: 3, Id: 6}, {Kind: 2, Id: 22}, {Kind: 1, Id: 21}}},
			api.Sector{0x53, 1, 0x11, 0x22, 0x33, 0x44, 5, 5, 25, 4, 24, 3, 6, 2, 22, 1, 21}},
		{"the least", summary.Summary{Marks: []api.Mark{{Kind: 1}}}, api.Sector{0x53, 6: 1, 7: 1}},
		{"the last Ids", summary.Summary{Seq: math.MaxUint32, More: true, Marks: kinds()},
			api.Sector{0x53, 1, 255, 255, 255, 255, 5, 1, 63, 2, 63, 3, 7, 4, 63, 5, 63}},
		{"MaxMarks", summary.Summary{Seq: 1, Marks: slices.Repeat([]api.Mark{{Kind: 2, Id: 9}, {Kind: 5, Id: 8}}, 12)},
			api.Sector{0x53, 0, 1, 0, 0, 0, 24,
				2, 9, 5, 8, 2, 9, 5, 8, 2, 9, 5, 8, 2, 9, 5, 8, 2, 9, 5, 8, 2, 9, 5, 8,
				2, 9, 5, 8, 2, 9, 5, 8, 2, 9, 5, 8, 2, 9, 5, 8, 2, 9, 5, 8, 2, 9, 5, 8}},
	} {
		if x, e := summary.Encode(c.s); e != api.OK || x != c.x {
			t.Errorf("%s: %v, %v, not %v", c.name, x, e, c.x)
		}
		if s, e := summary.Decode(c.x); e != api.OK || !same(s, c.s) {
			t.Errorf("%s: %+v, %v, not %+v", c.name, s, e, c.s)
		}
	}
}

// P5.1, P5.2: summaries of one kind, of each two, and with one mark many times.
func TestOrdinary(t *testing.T) {
	for _, a := range kinds() {
		may(t, "one kind", []api.Mark{a})
		may(t, "one mark again and again", slices.Repeat([]api.Mark{a}, 24))
		for _, b := range kinds() {
			may(t, "two kinds", []api.Mark{a, b})
			may(t, "two kinds of one Id", []api.Mark{{Kind: a.Kind, Id: 5}, {Kind: b.Kind, Id: 5}})
		}
	}
}

// P5.1, P5.2: no marks, one, MaxMarks, and one more.
func TestCounts(t *testing.T) {
	mayNot(t, "nil", nil)
	mayNot(t, "no marks", []api.Mark{})
	mayNot(t, "no marks, with spare room", make([]api.Mark, 0, 4))
	for n := 1; n <= 24; n++ {
		may(t, "count", marksOf(n))
	}
	for _, n := range []int{25, 26, 28, 29, 64, 127, 128, 255, 256, 257, 256 + 24, 512 + 1, 65536 + 1} {
		mayNot(t, "count", marksOf(n))
	}
}

// far are numbers that no field may have, though their lowest bits may.
func far() []int {
	return []int{math.MinInt, math.MinInt + 1, math.MinInt32, -1 << 16, -256, -255, -251, -3, -2, -1, 256, 257, 259, 261, 1 << 16, 1<<16 + 1, 1<<32 + 1, 1<<32 + 3, 1 << 62, math.MaxInt - 1, math.MaxInt}
}

// among are marks with m in each place that one of them may have.
func among(m api.Mark) [][]api.Mark {
	out := [][]api.Mark{{m}}
	for _, n := range []int{2, 3, 24} {
		for _, i := range []int{0, n / 2, n - 1} {
			l := marksOf(n)
			l[i] = m
			out = append(out, l)
		}
	}
	return out
}

// P5.1: Id, from 0 to the last one of each kind.
func TestIds(t *testing.T) {
	for _, k := range kinds() {
		for id := -3; id <= 300; id++ {
			for _, l := range among(api.Mark{Kind: k.Kind, Id: id}) {
				if id >= 0 && id <= k.Id {
					may(t, "Id", l)
					continue
				}
				mayNot(t, "Id", l)
				if id >= 0 && id < 256 {
					none(t, "Id", laid(summary.Summary{Seq: 77, Marks: l}))
				}
			}
		}
		for _, id := range far() {
			for _, l := range among(api.Mark{Kind: k.Kind, Id: id}) {
				mayNot(t, "Id", l)
			}
		}
	}
}

// P5.1: kinds, from Image to Free.
func TestKinds(t *testing.T) {
	for kind := -3; kind <= 300; kind++ {
		for _, id := range []int{0, 1, 7} {
			for _, l := range among(api.Mark{Kind: kind, Id: id}) {
				if kind >= 1 && kind <= 5 {
					may(t, "kind", l)
					continue
				}
				mayNot(t, "kind", l)
				if kind >= 0 && kind < 256 {
					none(t, "kind", laid(summary.Summary{Seq: 77, More: true, Marks: l}))
				}
			}
		}
	}
	for _, kind := range far() {
		for _, l := range among(api.Mark{Kind: kind}) {
			mayNot(t, "kind", l)
		}
	}
}

// P5.1: how many marks have a block, in summaries that may be and in lists that no summary may have.
func TestBlocks(t *testing.T) {
	for _, c := range []struct {
		name string
		l    []api.Mark
		n    int
	}{
		{"nil", nil, 0},
		{"no marks", []api.Mark{}, 0},
		{"an image", []api.Mark{{Kind: 1, Id: 3}}, 1},
		{"a delta", []api.Mark{{Kind: 2, Id: 3}}, 1},
		{"a mapping page", []api.Mark{{Kind: 3, Id: 3}}, 1},
		{"an alloc", []api.Mark{{Kind: 4, Id: 3}}, 0},
		{"a free", []api.Mark{{Kind: 5, Id: 3}}, 0},
		{"all kinds", kinds(), 3},
		{"one mark again and again", slices.Repeat([]api.Mark{{Kind: 2, Id: 1}}, 24), 24},
		{"more than MaxMarks", slices.Repeat(kinds(), 100), 300},
		{"kinds beside them", []api.Mark{{Kind: 0}, {Kind: 6}, {Kind: -1}, {Kind: 255}, {}}, 0},
		{"Ids that may not be", []api.Mark{{Kind: 1, Id: 64}, {Kind: 1, Id: -1}, {Kind: 2, Id: 99}, {Kind: 3, Id: 8}, {Kind: 3, Id: math.MinInt}, {Kind: 4, Id: 64}, {Kind: 5, Id: -1}}, 5},
	} {
		if n := summary.Blocks(c.l); n != c.n {
			t.Errorf("%s: Blocks %v: %d, not %d", c.name, c.l, n, c.n)
		}
	}
	for _, kind := range far() {
		if n := summary.Blocks([]api.Mark{{Kind: kind, Id: 1}, {Kind: 1, Id: 1}}); n != 1 {
			t.Errorf("Blocks of kind %d and an image: %d", kind, n)
		}
	}
}

// P5.1: sectors whose first byte is not a summary's, all those one bit away among them.
func TestFirstByte(t *testing.T) {
	for n := 1; n <= 24; n++ {
		for first := range 256 {
			x := laid(summary.Summary{Seq: 0x01020304, More: n%2 == 0, Marks: marksOf(n)})
			x[0] = byte(first)
			if first != 0x53 {
				none(t, "first byte", x)
			} else if s, e := summary.Decode(x); e != api.OK || !slices.Equal(s.Marks, marksOf(n)) {
				t.Errorf("first byte: Decode %v: %+v, %v", x, s, e)
			}
		}
	}
	none(t, "zeros", api.Sector{})
	none(t, "a first byte alone", api.Sector{0x53})
	none(t, "a lower case first byte", api.Sector{0x73, 6: 1, 7: 1})
	none(t, "first byte of decimal digits", api.Sector{53, 6: 1, 7: 1})
	all := api.Sector{}
	for i := range all {
		all[i] = 255
	}
	none(t, "all ones", all)
	all[0] = 0x53
	none(t, "all ones behind the first byte", all)
}

// P5.1: More is 1 or 0.
func TestMore(t *testing.T) {
	for more := range 256 {
		want := summary.Summary{Seq: 9, More: more == 1, Marks: marksOf(3)}
		x := laid(want)
		x[1] = byte(more)
		if more > 1 {
			none(t, "More", x)
		} else if s, e := summary.Decode(x); e != api.OK || !same(s, want) {
			t.Errorf("More: Decode %v: %+v, %v", x, s, e)
		}
	}
}

// P5.1: counts that are not of the marks that stand there; what the sector has no room for, too.
func TestCountsOfSectors(t *testing.T) {
	for _, n := range []int{1, 2, 12, 23, 24} {
		for count := range 256 {
			x := laid(summary.Summary{Seq: 9, Marks: marksOf(n)})
			x[6] = byte(count)
			if count != n {
				none(t, "count", x)
			} else if s, e := summary.Decode(x); e != api.OK || !slices.Equal(s.Marks, marksOf(n)) {
				t.Errorf("count: Decode %v: %+v, %v", x, s, e)
			}
		}
	}
	// Marks that may be, up to the sector's end: it is their count alone that may not be.
	full := api.Sector{0x53}
	for i := 7; i < 64; i++ {
		full[i] = 1
	}
	for _, count := range []byte{0, 1, 23, 24, 25, 28, 29, 255} {
		full[6] = count
		none(t, "count of many marks", full)
	}
	for _, n := range []int{25, 26, 27, 28} {
		none(t, "more than MaxMarks", laid(summary.Summary{Seq: 9, Marks: marksOf(n)}))
	}
}

// P5.1: sectors with a byte set where zeros belong, at each such place.
func TestZerosBelong(t *testing.T) {
	for n := 1; n <= 24; n++ {
		for _, marks := range [][]api.Mark{marksOf(n), slices.Repeat([]api.Mark{{Kind: 1}}, n)} {
			x := laid(summary.Summary{Seq: 77, More: n%2 == 0, Marks: marks})
			if s, e := summary.Decode(x); e != api.OK || !slices.Equal(s.Marks, marks) {
				t.Errorf("Decode %v: %+v, %v", x, s, e)
			}
			for i := 7 + 2*n; i < 64; i++ {
				for bit := range 8 {
					y := x
					y[i] = 1 << bit
					none(t, "a byte among zeros", y)
				}
			}
		}
	}
}

// P5.1: a block's sector is no summary's, of each kind.
func TestBlocksSectors(t *testing.T) {
	for _, b := range []api.Block{
		{Kind: api.Image, Id: 3, Page: api.Page{1, 1, 1, 1}},
		{Kind: api.Image},
		{Kind: api.Delta, Id: 3, Off: 1, Bytes: []byte{1}, Prev: api.Zeros},
		{Kind: api.Map, Id: 3, Heads: [8]int{1, 257, 4}},
		{Kind: api.Map},
	} {
		for _, seq := range numbers() {
			x, e := block.Encode(b, seq)
			if e != api.OK {
				t.Fatalf("Encode %+v: %v", b, e)
			}
			none(t, "a block", x)
		}
	}
}

// P5.1, P5.2: of any sector near to those of summaries, Decode tells a summary whose sector it is, or none.
func TestDecodeOfAny(t *testing.T) {
	told, asked := 0, 0
	for _, n := range []int{1, 2, 5, 23, 24} {
		for _, more := range []bool{false, true} {
			x := laid(summary.Summary{Seq: 0x01020304, More: more, Marks: marksOf(n)})
			for i := range x {
				for v := range 256 {
					c := x
					c[i] = byte(v)
					asked++
					s, e := summary.Decode(c)
					if e != api.OK {
						none(t, "near", c)
						continue
					}
					told++
					if y, e := summary.Encode(s); e != api.OK || y != c || laid(s) != c {
						t.Errorf("Decode %v: %+v, whose sector is %v, %v", c, s, y, e)
					}
				}
			}
		}
	}
	if told == 0 || told == asked {
		t.Errorf("%d of %d are summaries", told, asked)
	}
}

// Rule 2: what is handed in is not changed, its spare room included, and what is told shares no memory.
func TestMemory(t *testing.T) {
	room := slices.Repeat([]api.Mark{{Kind: 2, Id: 33}}, 40)
	s := summary.Summary{Seq: 5, More: true, Marks: room[4:7]}
	x, _ := summary.Encode(s)
	summary.Blocks(s.Marks)
	if !slices.Equal(room, slices.Repeat([]api.Mark{{Kind: 2, Id: 33}}, 40)) {
		t.Errorf("the marks have changed: %v", room)
	}
	one, _ := summary.Decode(x)
	two, _ := summary.Decode(x)
	for _, l := range [][]api.Mark{one.Marks[:cap(one.Marks)], room} {
		for i := range l {
			l[i] = api.Mark{Kind: 1, Id: 1}
		}
	}
	if !slices.Equal(two.Marks, slices.Repeat([]api.Mark{{Kind: 2, Id: 33}}, 3)) {
		t.Errorf("two answers share memory: %v", two.Marks)
	}
	if !bytes.Equal(x[:13], []byte{0x53, 1, 5, 0, 0, 0, 3, 2, 33, 2, 33, 2, 33}) {
		t.Errorf("the sector has changed: %v", x)
	}
}

// Rule 4: what is answered hangs on the arguments alone.
func TestAnswersStay(t *testing.T) {
	for _, other := range [][]api.Mark{nil, marksOf(24), marksOf(25), {{Kind: 9}}} {
		o, _ := summary.Encode(summary.Summary{Seq: 3, More: true, Marks: other})
		summary.Decode(o)
		summary.Blocks(other)
		may(t, "behind another", marksOf(2))
	}
}
