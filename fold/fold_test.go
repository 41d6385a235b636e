package fold_test

import (
	"bytes"
	"math"
	"slices"
	"testing"

	"silt/api"
	"silt/fold"
)

// image is page id's block with all its bytes, each told from the others, and none of them 0.
func image(id int) api.Block {
	b := api.Block{Kind: api.Image, Id: id}
	for i := range b.Page {
		b.Page[i] = byte(0xC0 + i)
	}
	return b
}

// delta is page id's block with n bytes at off, each of them from.. on.
func delta(id, off, n int, from byte, prev int) api.Block {
	b := api.Block{Kind: api.Delta, Id: id, Off: off, Prev: prev}
	for i := range n {
		b.Bytes = append(b.Bytes, from+byte(i))
	}
	return b
}

func mapping(id int) api.Block {
	return api.Block{Kind: api.Map, Id: id, Heads: [8]int{4, 1, 0, 1023, 77}}
}

// with is b, changed.
func with(b api.Block, change func(b *api.Block)) api.Block {
	change(&b)
	return b
}

// at is l, with b in i's place.
func at(l []api.Block, i int, b api.Block) []api.Block {
	l = slices.Clone(l)
	l[i] = b
	return l
}

func chain(l ...api.Block) []api.Block { return l }

// chains are some of each number of blocks, with an Image last and with a Delta last, all of page id.
func chains(id int) [][]api.Block {
	first := delta(id, 4, 6, 0x10, 50)
	second := delta(id, 7, 9, 0x30, 60)
	last := delta(id, 2, 7, 0x50, api.Zeros)
	whole := image(id)
	return [][]api.Block{
		{whole},
		{last},
		{first, whole},
		{first, last},
		{first, second, whole},
		{first, second, last},
	}
}

// laid is what a chain comes to: each byte is what the block nearest to the head says of it.
func laid(l []api.Block) (p api.Page) {
	for at := range p {
		for _, b := range l {
			if x, ok := says(b, at); ok {
				p[at] = x
				break
			}
		}
	}
	return p
}

// says is what a block says of a page's byte, if it says something.
func says(b api.Block, at int) (byte, bool) {
	if b.Kind == 1 {
		return b.Page[at], true
	}
	for i, x := range b.Bytes {
		if b.Off+i == at {
			return x, true
		}
	}
	return 0, false
}

// folds holds that l is a chain, and comes to the page that its blocks say.
func folds(t *testing.T, name string, l []api.Block) {
	t.Helper()
	if p, e := fold.Page(l); e != api.OK || p != laid(l) {
		t.Errorf("%s: %+v: %v, %v, not %v", name, l, p, e, laid(l))
	}
}

// foldsNot holds that l is no chain.
func foldsNot(t *testing.T, name string, l []api.Block) {
	t.Helper()
	if p, e := fold.Page(l); e != api.ErrForm || p != (api.Page{}) {
		t.Errorf("%s: %+v: %v, %v", name, l, p, e)
	}
}

// P8.1: pages written out.
func TestPages(t *testing.T) {
	whole := api.Block{Kind: 1, Id: 9, Page: api.Page{5, 6, 7, 8, 30: 1, 31: 2}}
	older := api.Block{Kind: 2, Id: 9, Off: 1, Bytes: []byte{16, 17, 18, 19}, Prev: 40}
	newer := api.Block{Kind: 2, Id: 9, Off: 3, Bytes: []byte{28, 0}, Prev: 41}
	over := api.Block{Kind: 2, Id: 9, Off: 2, Bytes: []byte{47, 0, 49}, Prev: 1}
	for i, x := range []struct {
		l []api.Block
		p api.Page
	}{
		{chain(whole), api.Page{5, 6, 7, 8, 30: 1, 31: 2}},
		{chain(older, whole), api.Page{5, 16, 17, 18, 19, 30: 1, 31: 2}},
		{chain(newer, older, whole), api.Page{5, 16, 17, 28, 30: 1, 31: 2}},
		{chain(older, newer, whole), api.Page{5, 16, 17, 18, 19, 30: 1, 31: 2}},
		{chain(over), api.Page{2: 47, 4: 49}},
		{chain(older, over), api.Page{1: 16, 2: 17, 3: 18, 4: 19}},
		{chain(newer, older, over), api.Page{1: 16, 2: 17, 3: 28, 4: 0}},
		{chain(older, newer, over), api.Page{1: 16, 2: 17, 3: 18, 4: 19}},
	} {
		if p, e := fold.Page(x.l); e != api.OK || p != x.p {
			t.Errorf("%d: %v, %v, not %v", i, p, e, x.p)
		}
	}
}

// P8.1: no blocks: zeros, nil and empty alike, with spare room or without.
func TestNoBlocks(t *testing.T) {
	folds(t, "nil", nil)
	folds(t, "empty", []api.Block{})
	folds(t, "spare room", chains(3)[4][:0])
	folds(t, "much spare room", make([]api.Block, 0, 100))
}

// P8.1: an Image alone is its page, be it zeros or not.
func TestImageAlone(t *testing.T) {
	folds(t, "zeros", chain(api.Block{Kind: 1}))
	folds(t, "the greatest bytes", chain(with(image(63), func(b *api.Block) {
		for i := range b.Page {
			b.Page[i] = 255
		}
	})))
	for i := range 32 {
		folds(t, "one byte", chain(with(api.Block{Kind: 1, Id: 5}, func(b *api.Block) { b.Page[i] = 7 })))
	}
}

// P8.1: a Delta of each length at each place, over zeros, over an Image, over another Delta, under another one.
func TestDeltas(t *testing.T) {
	for n := 1; n <= 16; n++ {
		for off := 0; off+n <= 32; off++ {
			folds(t, "over zeros", chain(delta(7, off, n, 1, api.Zeros)))
			folds(t, "over an image", chain(delta(7, off, n, 1, 50), image(7)))
			folds(t, "over a delta over zeros", chain(delta(7, off, n, 1, 50), delta(7, 9, 16, 0x40, api.Zeros)))
			folds(t, "under a delta over zeros", chain(delta(7, 9, 13, 0x40, 50), delta(7, off, n, 1, api.Zeros)))
			folds(t, "over a delta over an image", chain(delta(7, off, n, 1, 50), delta(7, 9, 16, 0x40, 60), image(7)))
			folds(t, "under a delta over an image", chain(delta(7, 9, 13, 0x40, 50), delta(7, off, n, 1, 60), image(7)))
		}
	}
}

// P8.1: Deltas that lie over each other, wholly and in part, and side by side: the one nearer to the head counts.
func TestOverEachOther(t *testing.T) {
	for _, n := range []int{1, 2, 8, 16} {
		for _, m := range []int{1, 3, 16} {
			for off := 0; off+n <= 32; off += 2 {
				for under := 0; under+m <= 32; under++ {
					one, two := delta(7, off, n, 0x10, 50), delta(7, under, m, 0x50, 60)
					folds(t, "an image", chain(one, two, image(7)))
					folds(t, "a delta", chain(one, two, delta(7, 8, 16, 0x90, api.Zeros)))
				}
			}
		}
	}
}

// P8.1: a Delta's bytes count as they are: zeros over others, and what was there already.
func TestBytesThatSayLittle(t *testing.T) {
	zeros := api.Block{Kind: 2, Id: 7, Off: 3, Bytes: make([]byte, 16), Prev: 50}
	folds(t, "zeros over an image", chain(zeros, image(7)))
	folds(t, "zeros over a delta", chain(zeros, delta(7, 0, 16, 1, api.Zeros)))
	folds(t, "zeros under a delta", chain(delta(7, 0, 16, 1, 50), zeros, image(7)))
	folds(t, "zeros over zeros", chain(with(zeros, func(b *api.Block) { b.Prev = api.Zeros })))
	whole := image(7)
	folds(t, "alike", chain(with(zeros, func(b *api.Block) { b.Bytes = slices.Clone(whole.Page[3:19]) }), whole))
}

// P8.1: just MaxChain blocks, and more.
func TestMost(t *testing.T) {
	for _, prev := range []int{4, 50, 1023} {
		d := delta(7, 4, 6, 0x10, prev)
		folds(t, "three, an image", chain(d, d, image(7)))
		folds(t, "three deltas", chain(d, d, delta(7, 9, 2, 0x50, api.Zeros)))
		for _, n := range []int{3, 4, 5, 7, 255, 256, 257, 258, 1000} {
			ahead := slices.Repeat(chain(d), n)
			foldsNot(t, "more, an image", append(slices.Clone(ahead), image(7)))
			foldsNot(t, "more deltas", append(slices.Clone(ahead), delta(7, 9, 2, 0x50, api.Zeros)))
			foldsNot(t, "no end", ahead)
			foldsNot(t, "images", slices.Repeat(chain(image(7)), n))
			foldsNot(t, "no blocks", make([]api.Block, n))
		}
	}
	// A chain, and what is none behind it.
	for _, l := range chains(7) {
		foldsNot(t, "a chain, an image behind", append(slices.Clone(l), image(7)))
		foldsNot(t, "a chain, a delta behind", append(slices.Clone(l), delta(7, 9, 2, 0x50, api.Zeros)))
		foldsNot(t, "a chain, zeros behind", append(slices.Clone(l), api.Block{}))
	}
}

// P8.1: each place that a Prev may be: it is not asked what stands there, nor whether another one says it.
func TestPrev(t *testing.T) {
	for _, prev := range []int{4, 5, 6, 50, 255, 256, 257, 511, 512, 513, 1022, 1023} {
		d := delta(7, 4, 6, 0x10, prev)
		for _, other := range []int{4, 50, 1023} {
			under := delta(7, 7, 9, 0x30, other)
			folds(t, "a place", chain(d, under, image(7)))
			folds(t, "a place", chain(under, d, image(7)))
			folds(t, "a place", chain(d, under, delta(7, 2, 7, 0x50, api.Zeros)))
			folds(t, "a place", chain(under, d, delta(7, 2, 7, 0x50, api.Zeros)))
		}
		folds(t, "a place", chain(d, image(7)))
		folds(t, "a place", chain(d, delta(7, 2, 7, 0x50, api.Zeros)))
		foldsNot(t, "a place at the end", chain(d))
		foldsNot(t, "a place at the end", chain(delta(7, 7, 9, 0x30, 50), d))
		foldsNot(t, "a place at the end", chain(delta(7, 7, 9, 0x30, 50), delta(7, 7, 9, 0x30, 60), d))
	}
}

// P8.1: Zeros ahead of the last block end no chain, whatever stands behind.
func TestZerosAhead(t *testing.T) {
	for _, l := range chains(7) {
		for i := range len(l) - 1 {
			foldsNot(t, "zeros ahead", at(l, i, with(l[i], func(b *api.Block) { b.Prev = api.Zeros })))
		}
	}
	d := delta(7, 4, 6, 0x10, api.Zeros)
	foldsNot(t, "twice", chain(d, d))
	foldsNot(t, "three times", chain(d, d, d))
	foldsNot(t, "and a place at the end", chain(d, delta(7, 4, 6, 0x10, 50)))
}

// P8.1: a Prev that is no head, or NoPage, at each place of the chain.
func TestPrevThatMayNotBe(t *testing.T) {
	for _, l := range chains(7) {
		for i := range l {
			for _, prev := range append(far(), 0, 2, 3, -1, -4, 1024, 1025, 2048) {
				foldsNot(t, "a prev", at(l, i, with(l[i], func(b *api.Block) {
					b.Kind, b.Off, b.Bytes, b.Page, b.Prev = api.Delta, 5, []byte{8, 9}, api.Page{}, prev
				})))
			}
		}
	}
}

// P8.1: an Image ahead of the last block, and two Images.
func TestImageAhead(t *testing.T) {
	for _, l := range chains(7) {
		for i := range len(l) - 1 {
			foldsNot(t, "an image ahead", at(l, i, image(7)))
		}
	}
	foldsNot(t, "two", chain(image(7), image(7)))
	foldsNot(t, "three", chain(image(7), image(7), image(7)))
	foldsNot(t, "a delta between", chain(image(7), delta(7, 4, 6, 0x10, 50), image(7)))
	foldsNot(t, "a place behind", chain(image(7), delta(7, 4, 6, 0x10, 50)))
}

// P8.1: each Id that may be, the first and the last one, too.
func TestIds(t *testing.T) {
	for id := range 64 {
		for _, l := range chains(id) {
			folds(t, "an id", l)
		}
	}
}

// P8.1: a block of another Id, at each place of a chain; an Id that may not be is told of a block alone, and of all blocks of a chain, too.
func TestOtherIds(t *testing.T) {
	for _, id := range []int{0, 1, 31, 62, 63} {
		for _, l := range chains(id) {
			for i := range l {
				for other := range 64 {
					if other != id && len(l) > 1 {
						foldsNot(t, "another id", at(l, i, with(l[i], func(b *api.Block) { b.Id = other })))
					}
				}
				for _, other := range append(far(), -1, -2, -63, 64, 65, 127, 128, 255) {
					foldsNot(t, "an id that may not be", at(l, i, with(l[i], func(b *api.Block) { b.Id = other })))
				}
			}
		}
	}
	for _, id := range append(far(), -1, -64, 64, 65, 127, 128, 255) {
		for _, l := range chains(id) {
			foldsNot(t, "an id that may not be", l)
		}
	}
	foldsNot(t, "three ids", chain(delta(1, 4, 6, 0x10, 50), delta(2, 4, 6, 0x10, 50), image(3)))
}

// P8.1: a mapping page's block, alone and at each place of a chain, of an Id that it may have or not.
func TestMaps(t *testing.T) {
	for id := range 9 {
		foldsNot(t, "alone", chain(mapping(id)))
		foldsNot(t, "of no pages", chain(api.Block{Kind: api.Map, Id: id}))
		foldsNot(t, "of the same map", chain(mapping(id), mapping(id)))
		for _, l := range chains(id) {
			for i := range l {
				foldsNot(t, "in a chain", at(l, i, mapping(id)))
				foldsNot(t, "of no pages, in a chain", at(l, i, api.Block{Kind: api.Map, Id: id}))
				// What a Map does not name is zero: it ends nothing, whatever it says.
				foldsNot(t, "with a prev", at(l, i, with(mapping(id), func(b *api.Block) { b.Prev = api.Zeros })))
			}
		}
	}
}

// P8.1: a block that is all zeros, or of a kind that there is not, alone and at each place of a chain.
func TestKinds(t *testing.T) {
	foldsNot(t, "zeros", chain(api.Block{}))
	foldsNot(t, "zeros", make([]api.Block, 2))
	foldsNot(t, "zeros", make([]api.Block, 3))
	for _, l := range chains(0) {
		for i := range l {
			foldsNot(t, "zeros", at(l, i, api.Block{}))
			for _, kind := range append(far(), 0, 4, 5, 6, 7, 8, -1, -2, 255) {
				foldsNot(t, "a kind", at(l, i, with(l[i], func(b *api.Block) { b.Kind = kind })))
				foldsNot(t, "a kind", at(l, i, api.Block{Kind: kind}))
			}
		}
	}
}

// P8.1: a Delta with no Bytes, with too many, ahead of the page, or beyond its end, at each place of a chain.
func TestDeltasThatMayNotBe(t *testing.T) {
	bad := func(l []api.Block, i, off int, content []byte) {
		t.Helper()
		foldsNot(t, "a delta", at(l, i, with(l[i], func(b *api.Block) {
			b.Off, b.Bytes = off, content
		})))
	}
	for _, l := range chains(7) {
		for i := range l {
			if l[i].Kind != api.Delta {
				continue
			}
			bad(l, i, 4, nil)
			bad(l, i, 0, []byte{})
			bad(l, i, 0, make([]byte, 0, 16))
			for _, n := range []int{17, 18, 31, 32, 33, 255, 256, 257, 272, 65537} {
				bad(l, i, 0, bytes.Repeat([]byte{6}, n))
			}
			for n := 1; n <= 16; n++ {
				for _, off := range append(far(), -33, -32, -17, -16, -2, -1, 33-n, 34-n, 32, 33) {
					bad(l, i, off, bytes.Repeat([]byte{6}, n))
				}
			}
		}
	}
}

// P8.1: what a block's kind does not name is zero: else it may not be, wherever it stands.
func TestFieldsOfOthers(t *testing.T) {
	for _, l := range chains(7) {
		for i, b := range l {
			foldsNot(t, "heads", at(l, i, with(b, func(b *api.Block) { b.Heads[7] = 50 })))
			if b.Kind == api.Delta {
				foldsNot(t, "a page", at(l, i, with(b, func(b *api.Block) { b.Page[31] = 1 })))
				continue
			}
			foldsNot(t, "an off", at(l, i, with(b, func(b *api.Block) { b.Off = 1 })))
			foldsNot(t, "bytes", at(l, i, with(b, func(b *api.Block) { b.Bytes = []byte{1} })))
			foldsNot(t, "zeros", at(l, i, with(b, func(b *api.Block) { b.Prev = api.Zeros })))
			foldsNot(t, "a prev", at(l, i, with(b, func(b *api.Block) { b.Prev = 50 })))
		}
	}
	folds(t, "no bytes", chain(with(image(7), func(b *api.Block) { b.Bytes = []byte{} })))
}

// P8.2: of each chain that another block may stand ahead of, one Delta more is laid over what there was.
func TestOneMore(t *testing.T) {
	for _, l := range chains(7) {
		was, e := fold.Page(l)
		if e != api.OK {
			t.Errorf("%+v: %v", l, e)
		}
		for n := 1; n <= 16; n++ {
			for off := 0; off+n <= 32; off++ {
				d := delta(7, off, n, 0x70, 90)
				p, e := fold.Page(append(chain(d), l...))
				if len(l) == 3 {
					if p != (api.Page{}) || e != api.ErrForm {
						t.Errorf("%+v: one more: %v, %v", l, p, e)
					}
					continue
				}
				want := was
				copy(want[off:], d.Bytes)
				if p != want || e != api.OK {
					t.Errorf("%+v: %+v more: %v, %v, not %v", l, d, p, e, want)
				}
			}
		}
	}
}

// far are numbers that nothing of a block may be, though their lowest bits, or what they come to with some more, may be.
func far() []int {
	l := []int{-1 << 32, -1<<32 + 7, -1 << 16, -1<<16 + 1, -1024, -256, -255, -249, -64, -57, 1 << 16, 1<<16 + 1, 1<<16 + 7, 1 << 31, 1 << 32, 1<<32 + 1, 1<<32 + 2, 1<<32 + 7, 1 << 62, 1<<62 + 1, math.MinInt32, math.MaxInt32, math.MaxUint32}
	for i := range 20 {
		l = append(l, math.MinInt+i, math.MaxInt-i)
	}
	return l
}

// copied are blocks with memory of their own.
func copied(l []api.Block) []api.Block {
	l = slices.Clone(l)
	for i := range l {
		l[i].Bytes = slices.Clone(l[i].Bytes)
	}
	return l
}

func alike(a, b []api.Block) bool {
	return slices.EqualFunc(a, b, func(a, b api.Block) bool {
		return a.Kind == b.Kind && a.Id == b.Id && a.Page == b.Page && a.Off == b.Off && bytes.Equal(a.Bytes, b.Bytes) && a.Prev == b.Prev && a.Heads == b.Heads
	})
}

// Rule 2: the call changes nothing of what it is given, neither the blocks nor their Bytes, nor the spare room of both.
func TestNothingChanged(t *testing.T) {
	for n := range 5 {
		room := make([]byte, 60)
		for i := range room {
			room[i] = byte(i + 1)
		}
		wasRoom := slices.Clone(room)
		l := chain(
			api.Block{Kind: 2, Id: 7, Off: 3, Bytes: room[:4], Prev: 50},
			api.Block{Kind: 2, Id: 7, Off: 5, Bytes: room[20:36], Prev: 60},
			image(7),
			api.Block{Kind: 2, Id: 7, Off: 9, Bytes: room[40:50], Prev: api.Zeros},
			image(8),
		)
		was := copied(l)
		fold.Page(l[:n])
		fold.Page(l[n : n+1])
		fold.Page(l[n:])
		if !alike(l, was) || !slices.Equal(room, wasRoom) {
			t.Errorf("changed: %+v, %v", l, room)
		}
	}
}

// Rule 2: a page that was told stays as it is, whatever becomes of the blocks.
func TestNewMemory(t *testing.T) {
	for _, l := range chains(7) {
		l = copied(l)
		want := laid(l)
		p, e := fold.Page(l)
		for i := range l {
			l[i].Page[0] ^= 0xff
			for j := range l[i].Bytes {
				l[i].Bytes[j] ^= 0xff
			}
		}
		if p != want || e != api.OK {
			t.Errorf("shared: %v, %v, not %v", p, e, want)
		}
	}
	// Blocks may share their Bytes.
	d := delta(7, 4, 6, 0x10, 50)
	folds(t, "shared bytes", chain(d, with(d, func(b *api.Block) { b.Off = 7 }), with(d, func(b *api.Block) { b.Off, b.Prev = 20, 1 })))
}

// Rule 4: what was asked before changes no answer.
func TestAnswersStay(t *testing.T) {
	for range 3 {
		for _, l := range chains(7) {
			folds(t, "a chain", l)
			foldsNot(t, "no chain", at(l, 0, api.Block{}))
			folds(t, "no blocks", nil)
			folds(t, "again", l)
		}
	}
}
