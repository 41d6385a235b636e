package policy_test

import (
	"math"
	"slices"
	"testing"

	"silt/api"
	"silt/block"
	"silt/delta"
	"silt/fold"
	"silt/group"
	"silt/policy"
)

// far are numbers that no id, no head and no length may be, though their lowest bits may.
func far() []int {
	l := []int{-1, -2, -3, -4, -8, -61, -63, -64, -65, -255, -256 + 5, -1023, -1024, -1<<16 + 1, -1 << 16, -1<<32 + 1, -1 << 32, -1 << 62,
		1024, 1025, 1027, 1028, 2047, 1 << 16, 1<<16 + 1, 1<<16 + 5, 1 << 31, 1<<31 + 3, 1 << 32, 1<<32 + 1, 1<<32 + 3, 1<<32 + 9, 1 << 62,
		math.MinInt32, math.MaxInt32, math.MaxUint32, math.MaxUint32 + 2}
	for i := range 6 {
		l = append(l, math.MinInt+i, math.MaxInt-i)
	}
	return l
}

// places are such as a block may stand at: the least, the greatest, and some between.
func places() []int { return []int{4, 5, 9, 63, 64, 255, 256, 257, 511, 512, 1022, 1023} }

// roomy are what a page may be with its chain below MaxChain, and its head not NoPage.
func roomy(p api.Page) []policy.Was {
	l := []policy.Was{{Head: 1, Page: p}}
	for _, place := range places() {
		l = append(l, policy.Was{Head: place, Length: 1, Page: p}, policy.Was{Head: place, Length: 2, Page: p})
	}
	return l
}

// full are what a page may be with its chain at MaxChain.
func full(p api.Page) []policy.Was {
	var l []policy.Was
	for _, place := range places() {
		l = append(l, policy.Was{Head: place, Length: 3, Page: p})
	}
	return l
}

// pages are of several kinds: zeros, a few bytes among them, rising, falling, the greatest bytes.
func pages() []api.Page {
	var up, down, most api.Page
	for i := range up {
		up[i], down[i], most[i] = byte(i+1), byte(200-3*i), 255
	}
	return []api.Page{{}, {1, 2, 3}, {5, 6, 7, 31: 9}, {31: 1}, {15: 7, 16: 8}, up, down, most}
}

// turned is a page with the bytes at these places made others.
func turned(p api.Page, at ...int) api.Page {
	for _, i := range at {
		p[i] ^= byte(i+1) | 0x80
	}
	return p
}

// run is the places from off up to end, which is not of them.
func run(off, end int) []int {
	var l []int
	for i := off; i < end; i++ {
		l = append(l, i)
	}
	return l
}

// whole is a page's item as an Image.
func whole(id int, p api.Page) api.Item {
	return api.Item{Mark: api.Mark{Kind: 1, Id: id}, Block: api.Block{Kind: 1, Id: id, Page: p}}
}

// part is a page's item as a Delta.
func part(id, off int, bytes []byte, prev int) api.Item {
	return api.Item{Mark: api.Mark{Kind: 2, Id: id}, Block: api.Block{Kind: 2, Id: id, Off: off, Bytes: bytes, Prev: prev}}
}

// alike tells whether items are the same in all fields; nil and empty Bytes are one.
func alike(x, y api.Item) bool {
	a, b := x.Block, y.Block
	return x.Mark == y.Mark && a.Kind == b.Kind && a.Id == b.Id && a.Page == b.Page && a.Off == b.Off && slices.Equal(a.Bytes, b.Bytes) && a.Prev == b.Prev && a.Heads == b.Heads
}

// over is what an item's block makes of the page that was.
func over(t *testing.T, p api.Page, x api.Item) api.Page {
	t.Helper()
	if x.Kind == 1 {
		return x.Block.Page
	}
	q, e := delta.Apply(p, x.Block.Off, x.Block.Bytes)
	if x.Kind != 2 || e != api.OK {
		t.Errorf("%+v is not laid over %v: %v", x, p, e)
	}
	return q
}

// lasts holds that an item may be written: alone it is a group, its block has a sector, and is read again out of it.
func lasts(t *testing.T, x api.Item) {
	t.Helper()
	s, e := block.Encode(x.Block, 7)
	b, seq, f := block.Decode(s)
	if !block.Good(x.Block) || e != api.OK || f != api.OK || seq != 7 || !alike(api.Item{Mark: x.Mark, Block: b}, x) {
		t.Errorf("%+v as a sector: %v, %+v, %v, %v", x, e, b, seq, f)
	}
	if group.Size([]api.Item{x}) != 2 {
		t.Errorf("%+v is no group", x)
	}
}

// writes holds that Item tells x, which makes now of what was, and may be written.
func writes(t *testing.T, id int, was policy.Was, now api.Page, x api.Item) {
	t.Helper()
	y, e := policy.Item(id, was, now)
	if e != api.OK || !alike(x, y) {
		t.Errorf("Item %d, %+v, %v: %+v, %v, not %+v", id, was, now, y, e, x)
		return
	}
	if over(t, was.Page, y) != now {
		t.Errorf("Item %d, %+v, %v: %+v does not make it", id, was, now, y)
	}
	lasts(t, y)
}

// writesNot holds that Item tells an error, and nothing beside it.
func writesNot(t *testing.T, id int, was policy.Was, now api.Page, want api.Errno) {
	t.Helper()
	if y, e := policy.Item(id, was, now); e != want || !alike(y, api.Item{}) {
		t.Errorf("Item %d, %+v, %v: %+v, %v, not %v", id, was, now, y, e, want)
	}
}

// differ holds what Item tells of a page that is turned at these places, rising, whatever it was.
func differ(t *testing.T, p api.Page, at ...int) {
	t.Helper()
	now := turned(p, at...)
	off, end := at[0], at[len(at)-1]+1
	for _, was := range roomy(p) {
		if end-off > 16 {
			writes(t, 5, was, now, whole(5, now))
		} else {
			writes(t, 5, was, now, part(5, off, now[off:end], was.Head))
		}
	}
	for _, was := range append(full(p), policy.Was{Page: p}) {
		writes(t, 5, was, now, whole(5, now))
	}
}

// P18.1: the chapter's example, one byte turned: a Delta.
func TestExample(t *testing.T) {
	x, e := policy.Item(3, policy.Was{Head: 50, Length: 1, Page: api.Page{5, 6, 7}}, api.Page{5, 9, 7})
	if e != api.OK || !alike(x, part(3, 1, []byte{9}, 50)) {
		t.Errorf("%+v, %v", x, e)
	}
}

// P18.1: items written out.
func TestWrittenOut(t *testing.T) {
	p := api.Page{5, 6, 7, 31: 9}
	for i, x := range []struct {
		id   int
		was  policy.Was
		now  api.Page
		want api.Item
	}{
		{0, policy.Was{Head: 4, Length: 1, Page: p}, api.Page{4, 6, 7, 31: 9},
			api.Item{Mark: api.Mark{Kind: api.Delta}, Block: api.Block{Kind: api.Delta, Bytes: []byte{4}, Prev: 4}}},
		{63, policy.Was{Head: 1023, Length: 2, Page: p}, api.Page{5, 6, 7},
			api.Item{Mark: api.Mark{Kind: api.Delta, Id: 63}, Block: api.Block{Kind: api.Delta, Id: 63, Off: 31, Bytes: []byte{0}, Prev: 1023}}},
		{7, policy.Was{Head: 1}, api.Page{3: 1, 5: 2},
			api.Item{Mark: api.Mark{Kind: api.Delta, Id: 7}, Block: api.Block{Kind: api.Delta, Id: 7, Off: 3, Bytes: []byte{1, 0, 2}, Prev: 1}}},
		{7, policy.Was{Head: 9, Length: 1, Page: p}, api.Page{1, 6, 7, 15: 2, 31: 9},
			api.Item{Mark: api.Mark{Kind: api.Delta, Id: 7}, Block: api.Block{Kind: api.Delta, Id: 7, Bytes: []byte{1, 6, 7, 0, 0, 0, 0, 0, 0, 0, 0, 0, 0, 0, 0, 2}, Prev: 9}}},
		{7, policy.Was{Head: 9, Length: 1, Page: p}, api.Page{1, 6, 7, 16: 2, 31: 9},
			api.Item{Mark: api.Mark{Kind: api.Image, Id: 7}, Block: api.Block{Kind: api.Image, Id: 7, Page: api.Page{1, 6, 7, 16: 2, 31: 9}}}},
		{63, policy.Was{Head: 9, Length: 3, Page: p}, api.Page{5, 6, 8, 31: 9},
			api.Item{Mark: api.Mark{Kind: api.Image, Id: 63}, Block: api.Block{Kind: api.Image, Id: 63, Page: api.Page{5, 6, 8, 31: 9}}}},
		{0, policy.Was{}, api.Page{5, 6, 8},
			api.Item{Mark: api.Mark{Kind: api.Image}, Block: api.Block{Kind: api.Image, Page: api.Page{5, 6, 8}}}},
		{0, policy.Was{}, api.Page{}, api.Item{Mark: api.Mark{Kind: api.Image}, Block: api.Block{Kind: api.Image}}},
	} {
		y, e := policy.Item(x.id, x.was, x.now)
		if e != api.OK || !alike(y, x.want) {
			t.Errorf("%d: %+v, %v, not %+v", i, y, e, x.want)
		}
	}
}

// P18.1: each id that is a page's, in each way that a page goes.
func TestIds(t *testing.T) {
	p := api.Page{5, 6, 7, 31: 9}
	near, wide := turned(p, 2, 4), turned(p, 2, 18)
	for id := range 64 {
		for _, was := range roomy(p) {
			writes(t, id, was, near, part(id, 2, near[2:5], was.Head))
			writes(t, id, was, wide, whole(id, wide))
			writesNot(t, id, was, p, api.ErrNone)
		}
		for _, was := range full(p) {
			writes(t, id, was, near, whole(id, near))
			writesNot(t, id, was, p, api.ErrNone)
		}
		writes(t, id, policy.Was{Page: p}, near, whole(id, near))
		writes(t, id, policy.Was{Page: p}, p, whole(id, p))
	}
}

// P18.1: ids that no page has, in each way that a page would go.
func TestIdsThatMayNotBe(t *testing.T) {
	p := api.Page{5, 6, 7, 31: 9}
	for _, id := range append(far(), 64, 65, 71, 72, 128, 200, 255, 256, 257, 511, 512, 1023) {
		for _, was := range slices.Concat(roomy(p), full(p), []policy.Was{{}, {Page: p}}) {
			for _, now := range []api.Page{p, {}, turned(p, 2), turned(p, 2, 18)} {
				writesNot(t, id, was, now, api.ErrArg)
			}
		}
	}
}

// mayBe is the document's word of heads and lengths that go together.
func mayBe(head, length int) bool {
	switch {
	case head == 0 || head == 1:
		return length == 0
	case head >= 4 && head <= 1023:
		return length == 1 || length == 2 || length == 3
	}
	return false
}

// asks holds that what a page was is refused just if it may not be, whether the page changes or not.
func asks(t *testing.T, head, length int) {
	t.Helper()
	p := api.Page{5, 6, 7, 31: 9}
	near, wide := turned(p, 2), turned(p, 2, 18)
	was := policy.Was{Head: head, Length: length, Page: p}
	switch {
	case !mayBe(head, length):
		for _, now := range []api.Page{p, near, wide, {}} {
			writesNot(t, 5, was, now, api.ErrArg)
		}
		return
	case head == 0:
		writes(t, 5, was, p, whole(5, p))
		writes(t, 5, was, near, whole(5, near))
	case length == 3:
		writesNot(t, 5, was, p, api.ErrNone)
		writes(t, 5, was, near, whole(5, near))
	default:
		writesNot(t, 5, was, p, api.ErrNone)
		writes(t, 5, was, near, part(5, 2, near[2:3], head))
	}
	writes(t, 5, was, wide, whole(5, wide))
}

// P18.1: each head around those that may be, with each length around those that may be.
func TestHeadsAndLengths(t *testing.T) {
	for head := -70; head <= 1100; head++ {
		for length := -3; length <= 6; length++ {
			asks(t, head, length)
		}
	}
}

// P18.1: heads and lengths that are far from those that may be.
func TestHeadsAndLengthsFar(t *testing.T) {
	for _, x := range far() {
		for length := -1; length <= 4; length++ {
			asks(t, x, length)
		}
		for _, head := range append(far(), -1, 0, 1, 2, 3, 4, 5, 64, 1022, 1023, 1024) {
			asks(t, head, x)
		}
	}
}

// P18.1: a page that is as it was is not written, unless its head is NoPage.
func TestAlike(t *testing.T) {
	for _, p := range pages() {
		for _, was := range append(roomy(p), full(p)...) {
			writesNot(t, 5, was, p, api.ErrNone)
		}
		writes(t, 5, policy.Was{Page: p}, p, whole(5, p))
	}
}

// P18.1, P18.2: of NoPage the page goes whole, whatever it came to.
func TestNoPage(t *testing.T) {
	for _, p := range pages() {
		for _, now := range pages() {
			writes(t, 5, policy.Was{Page: p}, now, whole(5, now))
		}
	}
}

// P18.1, P18.2: one byte that differs, at each place of the page.
func TestOneByte(t *testing.T) {
	for _, p := range pages() {
		for at := range p {
			differ(t, p, at)
		}
	}
}

// P18.1, P18.2: one byte that differs by one bit alone.
func TestOneBit(t *testing.T) {
	for _, p := range pages() {
		for at := range p {
			for bit := range 8 {
				now := p
				now[at] ^= 1 << bit
				writes(t, 5, policy.Was{Head: 9, Length: 2, Page: p}, now, part(5, at, now[at:at+1], 9))
				writes(t, 5, policy.Was{Head: 9, Length: 3, Page: p}, now, whole(5, now))
			}
		}
	}
}

// P18.1, P18.2: two bytes that differ, at each two places: a Delta, if they are not farther apart than its bytes may be.
func TestTwoBytes(t *testing.T) {
	for _, p := range pages() {
		for i := range p {
			for j := i + 1; j < len(p); j++ {
				differ(t, p, i, j)
			}
		}
	}
}

// P18.1, P18.2: all bytes from one place up to another differ, up to all of the page.
func TestRuns(t *testing.T) {
	for _, p := range pages() {
		for off := range p {
			for end := off + 1; end <= len(p); end++ {
				differ(t, p, run(off, end)...)
			}
		}
	}
}

// P18.1: just MaxDelta bytes, and one more, written out, with each chain.
func TestMost(t *testing.T) {
	for length, kinds := range map[int][2]int{1: {2, 1}, 2: {2, 1}, 3: {1, 1}} {
		was := policy.Was{Head: 9, Length: length}
		for i, now := range []api.Page{{1, 15: 1}, {1, 16: 1}} {
			if x, e := policy.Item(5, was, now); e != api.OK || x.Kind != kinds[i] || x.Block.Kind != kinds[i] {
				t.Errorf("length %d, %v: %+v, %v", length, now, x, e)
			}
		}
	}
}

// P18.1: of Zeros a Delta goes over what the page came to, as it is told, be that zeros or not.
func TestZeros(t *testing.T) {
	writesNot(t, 5, policy.Was{Head: 1}, api.Page{}, api.ErrNone)
	writes(t, 5, policy.Was{Head: 1}, api.Page{31: 8}, part(5, 31, []byte{8}, 1))
	writes(t, 5, policy.Was{Head: 1}, api.Page{1, 31: 8}, whole(5, api.Page{1, 31: 8}))
	p := api.Page{3, 4, 31: 8}
	writesNot(t, 5, policy.Was{Head: 1, Page: p}, p, api.ErrNone)
	writes(t, 5, policy.Was{Head: 1, Page: p}, api.Page{3, 31: 8}, part(5, 1, []byte{0}, 1))
	writes(t, 5, policy.Was{Head: 1, Page: p}, api.Page{}, whole(5, api.Page{}))
}

// P18.1: Whole of each id that is a page's, and of those that none has.
func TestWhole(t *testing.T) {
	for _, p := range pages() {
		for id := range 64 {
			x, e := policy.Whole(id, p)
			if e != api.OK || !alike(x, whole(id, p)) {
				t.Errorf("Whole %d, %v: %+v, %v", id, p, x, e)
			}
			lasts(t, x)
		}
		for _, id := range append(far(), 64, 65, 71, 72, 128, 200, 255, 256, 257, 511, 512, 1023) {
			if x, e := policy.Whole(id, p); e != api.ErrArg || !alike(x, api.Item{}) {
				t.Errorf("Whole %d, %v: %+v, %v", id, p, x, e)
			}
		}
	}
	x, e := policy.Whole(9, api.Page{7, 31: 1})
	if want := (api.Block{Kind: api.Image, Id: 9, Page: api.Page{7, 31: 1}}); e != api.OK || x.Mark != (api.Mark{Kind: api.Image, Id: 9}) || !alike(x, api.Item{Mark: x.Mark, Block: want}) {
		t.Errorf("%+v, %v", x, e)
	}
}

// P18.1: an item's bytes are new memory, their spare room, too.
func TestMemory(t *testing.T) {
	was := policy.Was{Head: 9, Length: 1, Page: api.Page{5, 6, 7, 31: 9}}
	now := api.Page{5, 60, 70, 80, 31: 9}
	want := part(5, 1, []byte{60, 70, 80}, 9)
	one, _ := policy.Item(5, was, now)
	two, _ := policy.Item(5, was, now)
	room := one.Block.Bytes[:cap(one.Block.Bytes)]
	for i := range room {
		room[i] ^= 0xff
	}
	three, e := policy.Item(5, was, now)
	if !alike(two, want) || e != api.OK || !alike(three, want) {
		t.Errorf("%+v, %+v, %v", two, three, e)
	}
	room = two.Block.Bytes[:cap(two.Block.Bytes)]
	for i := range room {
		if i >= 3 {
			room[i] ^= 0xff
		}
	}
	if !alike(two, want) || !alike(three, want) {
		t.Errorf("%+v, %+v", two, three)
	}
	if was.Page != (api.Page{5, 6, 7, 31: 9}) || now != (api.Page{5, 60, 70, 80, 31: 9}) {
		t.Errorf("%v, %v", was, now)
	}
}

// P18.1: an answer hangs on the arguments alone, not on what was asked ahead of it.
func TestAgain(t *testing.T) {
	p := api.Page{5, 6, 7, 31: 9}
	near, wide := turned(p, 2), turned(p, 2, 18)
	for range 2 {
		for _, length := range []int{1, 2, 3, 2, 1, 4, 1} {
			asks(t, 9, length)
		}
		writes(t, 5, policy.Was{Head: 1, Page: p}, near, part(5, 2, near[2:3], 1))
		writes(t, 5, policy.Was{Head: 1, Page: p}, wide, whole(5, wide))
		writesNot(t, 64, policy.Was{}, p, api.ErrArg)
		writesNot(t, 5, policy.Was{Head: 1, Page: p}, p, api.ErrNone)
	}
}

// P18.2: of any two pages what Item tells, laid over the one, is the other.
func TestLaidOver(t *testing.T) {
	kinds := map[int]int{}
	for _, p := range pages() {
		for _, was := range append(append(roomy(p), full(p)...), policy.Was{Page: p}) {
			for _, now := range pages() {
				x, e := policy.Item(5, was, now)
				if e == api.ErrNone && was.Head != 0 && p == now {
					continue
				}
				if e != api.OK || over(t, p, x) != now {
					t.Errorf("Item %+v, %v: %+v, %v", was, now, x, e)
				}
				lasts(t, x)
				kinds[x.Kind]++
			}
		}
	}
	if kinds[1] == 0 || kinds[2] == 0 || len(kinds) != 2 {
		t.Errorf("kinds %v", kinds)
	}
}

// log is blocks of one page, each at a place of its own, and the page's head.
type log struct {
	blocks map[int]api.Block
	head   int
}

// chain is the page's blocks, from the head on.
func (l *log) chain() []api.Block {
	var blocks []api.Block
	for at := l.head; at > 1; at = blocks[len(blocks)-1].Prev {
		blocks = append(blocks, l.blocks[at])
	}
	return blocks
}

// was is what the page is, out of its blocks.
func (l *log) was(t *testing.T) policy.Was {
	t.Helper()
	p, e := fold.Page(l.chain())
	if e != api.OK {
		t.Fatalf("%+v: %v", l.chain(), e)
	}
	return policy.Was{Head: l.head, Length: len(l.chain()), Page: p}
}

// put writes the page as it is to be, and holds which kind that comes to (0: none), how long the chain is then, and what it comes to.
func (l *log) put(t *testing.T, now api.Page, kind, length int) {
	t.Helper()
	was := l.was(t)
	x, e := policy.Item(5, was, now)
	if x.Kind != kind || (e == api.ErrNone) != (kind == 0) {
		t.Fatalf("Item %+v, %v: %+v, %v, not of kind %d", was, now, x, e, kind)
	}
	if e == api.OK {
		l.head = 4 + len(l.blocks)
		l.blocks[l.head] = x.Block
	}
	if is := l.was(t); is.Page != now || is.Length != length {
		t.Fatalf("%v has %d blocks, not %d", is.Page, is.Length, length)
	}
}

// steps are an Image, then Deltas up to MaxChain, an Image again.
func steps() [][2]int { return [][2]int{{1, 1}, {2, 2}, {2, 3}} }

// P18.1, P18.2: a chain grows by a Delta at a time up to MaxChain; then the page goes whole, and it begins anew.
func TestChains(t *testing.T) {
	for _, head := range []int{0, 1} {
		l := log{blocks: map[int]api.Block{}, head: head}
		var now api.Page
		if head == 1 {
			for i := range 3 {
				now[9*i]++
				l.put(t, now, 2, i+1)
			}
		}
		for i := range 60 {
			now[(7*i)%32] += byte(3*i + 1)
			x := steps()[i%3]
			l.put(t, now, x[0], x[1])
			l.put(t, now, 0, x[1])
		}
	}
}

// P18.1, P18.2: where too much differs a chain begins anew, however long it is.
func TestChainsAnew(t *testing.T) {
	for length := range 4 {
		l := log{blocks: map[int]api.Block{}, head: 1}
		var now api.Page
		for i := range length {
			now[i]++
			l.put(t, now, 2, i+1)
		}
		now = turned(now, 3, 19)
		l.put(t, now, 1, 1)
		now = turned(now, 3, 18)
		l.put(t, now, 2, 2)
		now = turned(now, 15, 31)
		l.put(t, now, 1, 1)
		l.put(t, now, 0, 1)
	}
}

// P18.1, P18.2: a page that comes back to what it was some blocks ago is written, too.
func TestChainsBack(t *testing.T) {
	l := log{blocks: map[int]api.Block{}}
	for i := range 12 {
		x := steps()[i%3]
		l.put(t, api.Page{9, 30: byte(i % 2)}, x[0], x[1])
	}
}

// P18.1, P18.2: an Image by Whole begins a chain anew, as the cleaner does.
func TestChainsWhole(t *testing.T) {
	l := log{blocks: map[int]api.Block{}, head: 1}
	now := api.Page{1}
	l.put(t, now, 2, 1)
	now[1] = 2
	l.put(t, now, 2, 2)
	x, e := policy.Whole(5, l.was(t).Page)
	if e != api.OK {
		t.Fatal(e)
	}
	l.head = 4 + len(l.blocks)
	l.blocks[l.head] = x.Block
	l.put(t, now, 0, 1)
	for i := range 2 {
		now[8+i]++
		l.put(t, now, 2, 2+i)
	}
	now[20]++
	l.put(t, now, 1, 1)
}
