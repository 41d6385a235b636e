package frames_test

import (
	"fmt"
	"math"
	"slices"
	"strings"
	"testing"

	"silt/api"
	"silt/clock"
	"silt/frames"
)

// maps is how many mapping pages there may be.
const maps = api.MaxPages / api.MapLen

type headList = [api.MapLen]int

func list(l ...int) []int { return l }

// far are numbers that no number of frames, no frame, no page and no mapping page may be, though their lowest bits may, or they with MaxPages.
func far() []int {
	return list(-1, -2, -8, -16, -59, -64, -65, -128, -1<<8+5, -1<<16+5, -1<<32, -1<<32+5, 72, 73, 128, 200, 1<<8, 1<<8+5, 1<<16+5, 1<<31, 1<<31+5, 1<<32, 1<<32+5, 1<<62,
		math.MinInt, math.MinInt+1, math.MinInt+5, math.MinInt+69, math.MinInt32, math.MaxInt32, math.MaxUint32, math.MaxInt-63, math.MaxInt-59, math.MaxInt-1, math.MaxInt)
}

// bytesOf are a page's, none like the next one's, nor like another seed's.
func bytesOf(seed int) api.Page {
	var p api.Page
	for i := range p {
		p[i] = byte(37*seed + 11*i + 1)
	}
	return p
}

// headsOf are a mapping page's.
func headsOf(seed int) headList {
	var h headList
	for i := range h {
		h[i] = 9*seed + i + 1
	}
	return h
}

// made is n frames that hold nothing.
func made(t *testing.T, n int) *frames.Frames {
	t.Helper()
	f, e := frames.New(n)
	if f == nil || e != api.OK {
		t.Fatalf("New %d: %v, %d", n, f, e)
	}
	return f
}

func holds(t *testing.T, f *frames.Frames, frame, page int, base api.Page, want bool) {
	t.Helper()
	if ok := f.Hold(frame, page, base); ok != want {
		t.Errorf("Hold %d, %d: %v", frame, page, ok)
	}
}

func holdsMap(t *testing.T, f *frames.Frames, frame, id int, h headList, want bool) {
	t.Helper()
	if ok := f.HoldMap(frame, id, h); ok != want {
		t.Errorf("HoldMap %d, %d: %v", frame, id, ok)
	}
}

func writes(t *testing.T, f *frames.Frames, page, off int, data []byte, want api.Errno) {
	t.Helper()
	if e := f.Write(page, off, data); e != want {
		t.Errorf("Write %d, %d, %v: %d, not %d", page, off, data, e, want)
	}
}

func forgets(t *testing.T, f *frames.Frames, key int, want bool) {
	t.Helper()
	if ok := f.Forget(key); ok != want {
		t.Errorf("Forget %d: %v", key, ok)
	}
}

// tells holds what a page that is held is.
func tells(t *testing.T, f *frames.Frames, page int, base, now api.Page) {
	t.Helper()
	if b, n, ok := f.Page(page); b != base || n != now || !ok {
		t.Errorf("Page %d: %v, %v, %v, not %v, %v", page, b, n, ok, base, now)
	}
}

// tellsNot holds that pages are not held.
func tellsNot(t *testing.T, f *frames.Frames, pages ...int) {
	t.Helper()
	for _, page := range pages {
		if b, n, ok := f.Page(page); b != (api.Page{}) || n != (api.Page{}) || ok {
			t.Errorf("Page %d: %v, %v, %v", page, b, n, ok)
		}
	}
}

// tellsMap holds what a mapping page that is held is.
func tellsMap(t *testing.T, f *frames.Frames, id int, want headList) {
	t.Helper()
	if h, ok := f.Map(id); h != want || !ok {
		t.Errorf("Map %d: %v, %v, not %v", id, h, ok, want)
	}
}

// tellsNoMap holds that mapping pages are not held.
func tellsNoMap(t *testing.T, f *frames.Frames, ids ...int) {
	t.Helper()
	for _, id := range ids {
		if h, ok := f.Map(id); h != (headList{}) || ok {
			t.Errorf("Map %d: %v, %v", id, h, ok)
		}
	}
}

// dirties holds which pages are dirty.
func dirties(t *testing.T, f *frames.Frames, want ...int) {
	t.Helper()
	if l := f.Dirty(); !slices.Equal(l, want) {
		t.Errorf("Dirty: %v, not %v", l, want)
	}
}

// keys holds which key each frame has; -1: none.
func keys(t *testing.T, f *frames.Frames, want ...int) {
	t.Helper()
	for frame, its := range want {
		if key, ok := f.Clock().Key(frame); ok != (its >= 0) || ok && key != its {
			t.Errorf("frame %d: key %d, %v, not %d", frame, key, ok, its)
		}
	}
}

// victims holds what the clock's Victim tells, again and again.
func victims(t *testing.T, f *frames.Frames, want ...int) {
	t.Helper()
	for k, frame := range want {
		if i, ok := f.Clock().Victim(); i != frame || !ok {
			t.Errorf("Victim, %d of %v: %d, %v", k, want, i, ok)
		}
	}
}

// text is all that is to be seen of n frames: what is held under each number, near and far, what is dirty, keys and pins.
func text(f *frames.Frames, n int) string {
	numbers := far()
	for i := range 80 {
		numbers = append(numbers, i)
	}
	var l []string
	for _, x := range numbers {
		if base, now, ok := f.Page(x); ok || base != now || base != (api.Page{}) {
			l = append(l, fmt.Sprint("page ", x, " ", base, " ", now, " ", ok))
		}
		if h, ok := f.Map(x); ok || h != (headList{}) {
			l = append(l, fmt.Sprint("map ", x, " ", h, " ", ok))
		}
	}
	l = append(l, fmt.Sprint("dirty ", f.Dirty(), " pinned ", f.Clock().Pinned()))
	for frame := range n {
		key, ok := f.Clock().Key(frame)
		l = append(l, fmt.Sprint("frame ", frame, " ", key, " ", ok, " ", f.Clock().Pins(frame)))
	}
	return strings.Join(l, "\n")
}

// rounds are the victims of n frames that are unpinned, and filled: they tell what is not to be seen, the marks and the hand.
func rounds(c *clock.Clock, n int) []int {
	for frame := range n {
		for c.Pins(frame) > 0 {
			c.Unpin(frame)
		}
		if _, ok := c.Key(frame); !ok {
			c.Put(frame, 1000+frame)
		}
	}
	var l []int
	for range 3*n + 1 {
		frame, _ := c.Victim()
		l = append(l, frame)
	}
	return l
}

// alike holds that two Frames are.
func alike(t *testing.T, a, b *frames.Frames, n int) {
	t.Helper()
	if x, y := text(a, n), text(b, n); x != y {
		t.Errorf("%s\nnot\n%s", x, y)
	}
	if x, y := rounds(a.Clock(), n), rounds(b.Clock(), n); !slices.Equal(x, y) {
		t.Errorf("victims %v, not %v", x, y)
	}
}

// mixed is six frames: a clean page (5), a dirty one (0), a mapping page (2), a clean page that is pinned (63), nothing (page 7 was there), and a mapping page that is pinned twice (7). The hand is at frame 1, and frames 2 and 3 are marked.
func mixed(t *testing.T) *frames.Frames {
	t.Helper()
	f := made(t, 6)
	holds(t, f, 0, 5, bytesOf(5), true)
	holds(t, f, 1, 0, bytesOf(0), true)
	writes(t, f, 0, 3, []byte{250, 251}, api.OK)
	holdsMap(t, f, 2, 2, headsOf(2), true)
	holds(t, f, 3, 63, bytesOf(63), true)
	holds(t, f, 4, 7, bytesOf(7), true)
	writes(t, f, 7, 3, []byte{250}, api.OK)
	holdsMap(t, f, 5, 7, headsOf(7), true)
	victims(t, f, 0)
	for _, frame := range list(2, 3) {
		f.Clock().Touch(frame)
	}
	for _, frame := range list(3, 5, 5) {
		f.Clock().Pin(frame)
	}
	forgets(t, f, 7, true)
	return f
}

// dirtied is what page 0 of mixed is.
func dirtied() api.Page {
	p := bytesOf(0)
	p[3], p[4] = 250, 251
	return p
}

// unchanged holds that something does nothing to what mixed is.
func unchanged(t *testing.T, do func(f *frames.Frames)) {
	t.Helper()
	f := mixed(t)
	do(f)
	alike(t, f, mixed(t), 6)
}

// bare is n frames that hold the pages from 0 on, without marks, the hand at frame 0.
func bare(t *testing.T, n int) *frames.Frames {
	t.Helper()
	f := made(t, n)
	for page := range n {
		holds(t, f, page, page, bytesOf(page), true)
	}
	for i := range n {
		victims(t, f, i)
	}
	return f
}

// What the helpers lean on: mixed is as it says.
func TestMixed(t *testing.T) {
	f := mixed(t)
	tells(t, f, 5, bytesOf(5), bytesOf(5))
	tells(t, f, 0, bytesOf(0), dirtied())
	tells(t, f, 63, bytesOf(63), bytesOf(63))
	tellsMap(t, f, 2, headsOf(2))
	tellsMap(t, f, 7, headsOf(7))
	tellsNot(t, f, 7, 2, 1)
	tellsNoMap(t, f, 5, 0)
	dirties(t, f, 0)
	keys(t, f, 5, 0, 66, 63, -1, 71)
	if l := rounds(f.Clock(), 6); !slices.Equal(l[:7], list(1, 5, 0, 1, 2, 3, 4)) {
		t.Errorf("victims %v", l)
	}
}

// The chapter's example.
func TestExample(t *testing.T) {
	f := made(t, 2)
	holds(t, f, 0, 3, bytesOf(3), true)
	dirties(t, f)
	writes(t, f, 3, 0, []byte{255}, api.OK)
	dirties(t, f, 3)
	f.Clean(3)
	dirties(t, f)
}

// P17.1: New takes what clock.New takes, and holds nothing.
func TestNew(t *testing.T) {
	for n := 1; n <= api.MaxFrames; n++ {
		f := made(t, n)
		for page := -1; page <= 80; page++ {
			tellsNot(t, f, page)
			tellsNoMap(t, f, page)
			writes(t, f, page, 0, []byte{1}, api.ErrNone)
			f.Clean(page)
			forgets(t, f, page, false)
		}
		dirties(t, f)
		alike(t, f, made(t, n), n)
		f = made(t, n)
		for frame := range n {
			victims(t, f, frame)
			holds(t, f, frame, 60-frame, bytesOf(frame), true)
			tells(t, f, 60-frame, bytesOf(frame), bytesOf(frame))
		}
		holds(t, f, n, 1, bytesOf(n), false)
		holdsMap(t, f, n, 1, headsOf(n), false)
		victims(t, f, 0)
	}
}

// P17.1: New takes nothing else.
func TestNewOfNone(t *testing.T) {
	for _, n := range append(far(), 0, 17, 18, 32, 64) {
		if f, e := frames.New(n); f != nil || e != api.ErrArg {
			t.Errorf("New %d: %v, %d", n, f, e)
		}
	}
}

// P17.1: of nil ErrArg, nil, false, none.
func TestNil(t *testing.T) {
	var f *frames.Frames
	if f.Clock() != nil {
		t.Error("Clock of nil")
	}
	for _, x := range append(far(), 0, 1, 5, 16, 63, 64, 69, 71) {
		for _, y := range append(far(), 0, 1, 5, 63, 64, 69) {
			holds(t, f, x, y, bytesOf(1), false)
			holdsMap(t, f, x, y, headsOf(1), false)
			writes(t, f, x, y, []byte{1}, api.ErrArg)
			writes(t, f, x, y, nil, api.ErrArg)
		}
		tellsNot(t, f, x)
		tellsNoMap(t, f, x)
		f.Clean(x)
		forgets(t, f, x, false)
		dirties(t, f)
	}
}

// P17.1: Clock tells the clock itself: what is held has its key there, and what is pinned there is pinned.
func TestClock(t *testing.T) {
	f := made(t, 3)
	c := f.Clock()
	if c == nil || f.Clock() != c {
		t.Fatal("another clock")
	}
	if other := made(t, 3).Clock(); other == c {
		t.Error("one clock of two Frames")
	}
	for page := range api.MaxPages {
		holds(t, f, page%2, page, bytesOf(page), true)
		if frame, ok := c.Find(page); frame != page%2 || !ok {
			t.Errorf("page %d: frame %d, %v", page, frame, ok)
		}
	}
	for id := range maps {
		holdsMap(t, f, 2, id, headsOf(id), true)
		keys(t, f, 62, 63, api.MaxPages+id)
	}
	c.Pin(1)
	holds(t, f, 1, 9, bytesOf(9), false)
	forgets(t, f, 63, false)
	c.Unpin(1)
	holds(t, f, 1, 9, bytesOf(9), true)
	forgets(t, f, 9, true)
	victims(t, f, 1)
	if f.Clock() != c {
		t.Error("another clock behind it")
	}
}

// P17.1: each page there may be is held in each frame, and nothing else is told.
func TestHoldEachPage(t *testing.T) {
	for page := range api.MaxPages {
		for frame := range api.MaxFrames {
			f := made(t, api.MaxFrames)
			holds(t, f, frame, page, bytesOf(page), true)
			tells(t, f, page, bytesOf(page), bytesOf(page))
			for other := range 80 {
				if other != page {
					tellsNot(t, f, other)
				}
			}
			for id := -api.MaxPages; id <= maps; id++ {
				tellsNoMap(t, f, id)
			}
			tellsNot(t, f, far()...)
			tellsNoMap(t, f, far()...)
			dirties(t, f)
		}
	}
}

// P17.1: each mapping page there may be is held in each frame, and no page is told.
func TestHoldEachMap(t *testing.T) {
	for id := range maps {
		for frame := range api.MaxFrames {
			f := made(t, api.MaxFrames)
			holdsMap(t, f, frame, id, headsOf(id), true)
			tellsMap(t, f, id, headsOf(id))
			for other := -api.MaxPages; other < 80; other++ {
				tellsNot(t, f, other)
				if other != id {
					tellsNoMap(t, f, other)
				}
			}
			tellsNot(t, f, far()...)
			tellsNoMap(t, f, far()...)
			dirties(t, f)
		}
	}
	f := made(t, 1)
	wide := headList{math.MinInt, -1, 0, 1, 1023, math.MaxInt32, math.MaxInt - 1, math.MaxInt}
	holdsMap(t, f, 0, 3, wide, true)
	tellsMap(t, f, 3, wide)
	holdsMap(t, f, 0, 3, headList{}, true)
	tellsMap(t, f, 3, headList{})
	dirties(t, f)
}

// P17.1: what may not be held, and that nothing is done then.
func TestHoldOfNone(t *testing.T) {
	for _, page := range append(far(), 64, 65, 66, 69, 71) {
		for frame := range 6 {
			unchanged(t, func(f *frames.Frames) { holds(t, f, frame, page, bytesOf(1), false) })
		}
	}
	for _, id := range append(far(), 8, 9, 16, 63, 64, 66, 69) {
		for frame := range 6 {
			unchanged(t, func(f *frames.Frames) { holdsMap(t, f, frame, id, headsOf(1), false) })
		}
	}
	for _, frame := range append(far(), 6, 7, 15, 16) {
		for _, x := range list(0, 1, 2, 5, 7, 63) {
			unchanged(t, func(f *frames.Frames) { holds(t, f, frame, x, bytesOf(1), false) })
			unchanged(t, func(f *frames.Frames) { holdsMap(t, f, frame, x%maps, headsOf(1), false) })
		}
	}
}

// P17.1: which frames don't take which page, and that nothing is done then.
func TestHoldNotTaken(t *testing.T) {
	for _, x := range []struct {
		name        string
		frame, page int
	}{
		{"in another frame", 4, 5}, {"in another frame, clean over clean", 0, 63}, {"in another frame, over a mapping page", 2, 5},
		{"dirty, in another frame", 4, 0}, {"dirty, in another frame, over clean", 0, 0},
		{"itself, dirty", 1, 0}, {"over a dirty page", 1, 9}, {"over a dirty page, in another frame", 1, 5},
		{"pinned", 3, 9}, {"itself, pinned", 3, 63}, {"over a mapping page, pinned", 5, 9}, {"in another frame, pinned", 3, 5},
	} {
		t.Run(x.name, func(t *testing.T) {
			unchanged(t, func(f *frames.Frames) { holds(t, f, x.frame, x.page, bytesOf(1), false) })
			unchanged(t, func(f *frames.Frames) { holds(t, f, x.frame, x.page, dirtied(), false) })
		})
	}
	// Pinned and dirty, and then either of these alone.
	f := mixed(t)
	f.Clock().Pin(1)
	holds(t, f, 1, 9, bytesOf(9), false)
	f.Clean(0)
	holds(t, f, 1, 9, bytesOf(9), false)
	tells(t, f, 0, dirtied(), dirtied())
	f.Clock().Unpin(1)
	holds(t, f, 1, 9, bytesOf(9), true)
	tellsNot(t, f, 0)
}

// P17.1: which frames don't take which mapping page, and that nothing is done then.
func TestHoldMapNotTaken(t *testing.T) {
	for _, x := range []struct {
		name      string
		frame, id int
	}{
		{"in another frame", 4, 2}, {"in another frame, over a page", 0, 2}, {"in another frame, over a mapping page", 2, 7},
		{"over a dirty page", 1, 1}, {"over a dirty page, in another frame", 1, 2},
		{"over a page, pinned", 3, 1}, {"itself, pinned", 5, 7}, {"over a mapping page, pinned", 5, 1},
	} {
		t.Run(x.name, func(t *testing.T) {
			unchanged(t, func(f *frames.Frames) { holdsMap(t, f, x.frame, x.id, headsOf(1), false) })
			unchanged(t, func(f *frames.Frames) { holdsMap(t, f, x.frame, x.id, headList{}, false) })
		})
	}
}

// P17.1: what is held over something else, which is held no longer.
func TestHoldOver(t *testing.T) {
	for _, x := range []struct {
		name            string
		frame, page, id int
		was             int
	}{
		{"a clean page", 0, 9, 4, 5}, {"a mapping page", 2, 9, 4, 66}, {"nothing", 4, 9, 4, 7}, {"what was forgotten", 4, 7, 5, 7},
		{"a page by its namesake", 0, 4, 5, 5}, {"a mapping page by its namesake", 2, 2, 4, 66},
	} {
		t.Run(x.name, func(t *testing.T) {
			f := mixed(t)
			holds(t, f, x.frame, x.page, bytesOf(77), true)
			tells(t, f, x.page, bytesOf(77), bytesOf(77))
			if x.was != x.page {
				tellsNot(t, f, x.was)
				forgets(t, f, x.was, false)
			}
			tellsNoMap(t, f, x.was-api.MaxPages)
			dirties(t, f, 0)

			f = mixed(t)
			holdsMap(t, f, x.frame, x.id, headsOf(77), true)
			tellsMap(t, f, x.id, headsOf(77))
			tellsNot(t, f, x.was)
			tellsNoMap(t, f, x.was-api.MaxPages)
			forgets(t, f, x.was, false)
			dirties(t, f, 0)
		})
	}
}

// P17.1: what is held again is held anew, if it is clean; and whatever a page has been, its heads are told of a mapping page alone.
func TestHoldItself(t *testing.T) {
	f := mixed(t)
	holds(t, f, 0, 5, bytesOf(6), true)
	tells(t, f, 5, bytesOf(6), bytesOf(6))
	writes(t, f, 5, 0, []byte{99}, api.OK)
	holds(t, f, 0, 5, bytesOf(5), false)
	f.Clean(5)
	holds(t, f, 0, 5, bytesOf(5), true)
	tells(t, f, 5, bytesOf(5), bytesOf(5))
	dirties(t, f, 0)
	holdsMap(t, f, 2, 2, headsOf(5), true)
	tellsMap(t, f, 2, headsOf(5))
	holdsMap(t, f, 0, 5, headsOf(5), true)
	holds(t, f, 0, 5, api.Page{}, true)
	tells(t, f, 5, api.Page{}, api.Page{})
	tellsNoMap(t, f, 5)
	keys(t, f, 5, 0, 66, 63, -1, 71)
}

// P17.1: what is held is marked, as clock.Put has it; the hand stays.
func TestHoldMarks(t *testing.T) {
	for _, hold := range []func(f *frames.Frames) bool{
		func(f *frames.Frames) bool { return f.Hold(0, 0, bytesOf(0)) },
		func(f *frames.Frames) bool { return f.Hold(0, 9, bytesOf(9)) },
		func(f *frames.Frames) bool { return f.HoldMap(0, 0, headsOf(0)) },
	} {
		f := bare(t, 3)
		if !hold(f) {
			t.Error("not held")
		}
		victims(t, f, 1, 2, 0)
	}
	// Page, Map, Clean and Dirty mark nothing.
	f := bare(t, 3)
	holdsMap(t, f, 2, 4, headsOf(4), true)
	victims(t, f, 0, 1, 0, 1, 2)
	f.Page(0)
	f.Clean(0)
	f.Dirty()
	f.Page(1)
	f.Map(4)
	victims(t, f, 0, 1, 2)
}

// written is a page with data at off, byte by byte.
func written(p api.Page, off int, data []byte) api.Page {
	for i, b := range data {
		p[off+i] = b
	}
	return p
}

// P17.2: data of each length at each place: those that fit are what the page is, the others are ErrLen, and nothing is done.
func TestWrite(t *testing.T) {
	for n := 0; n <= api.PageSize+1; n++ {
		data := make([]byte, n)
		for i := range data {
			data[i] = byte(200 - i)
		}
		for off := -3; off <= api.PageSize+3; off++ {
			if n == 0 || off < 0 || off+n > api.PageSize {
				unchanged(t, func(f *frames.Frames) { writes(t, f, 5, off, data, api.ErrLen) })
				continue
			}
			f := mixed(t)
			writes(t, f, 5, off, data, api.OK)
			tells(t, f, 5, bytesOf(5), written(bytesOf(5), off, data))
			dirties(t, f, 0, 5)
			// Over what was written before, Base stays.
			writes(t, f, 0, off, data, api.OK)
			tells(t, f, 0, bytesOf(0), written(dirtied(), off, data))
			tells(t, f, 63, bytesOf(63), bytesOf(63))
		}
	}
}

// P17.2: offs that no page has are ErrLen, whatever the length.
func TestWriteFar(t *testing.T) {
	for _, off := range append(far(), 32, 33, 64) {
		for _, n := range list(0, 1, 2, 31, 32, 33, 500) {
			unchanged(t, func(f *frames.Frames) { writes(t, f, 5, off, make([]byte, n), api.ErrLen) })
		}
	}
}

// P17.2: what is not held is ErrNone, ahead of ErrLen; a mapping page is no page.
func TestWriteOfNone(t *testing.T) {
	for _, page := range append(far(), 1, 2, 7, 62, 64, 65, 66, 69, 71) {
		unchanged(t, func(f *frames.Frames) {
			writes(t, f, page, 0, []byte{1}, api.ErrNone)
			writes(t, f, page, 0, nil, api.ErrNone)
			writes(t, f, page, -1, []byte{1}, api.ErrNone)
			writes(t, f, page, math.MaxInt, []byte{1}, api.ErrNone)
			writes(t, f, page, 0, make([]byte, 33), api.ErrNone)
		})
	}
	// A mapping page that was written to, if that were done, would be what was written.
	f := mixed(t)
	holds(t, f, 2, 9, bytesOf(9), true)
	tells(t, f, 9, bytesOf(9), bytesOf(9))
}

// P17.2: a pinned page is written, too.
func TestWritePinned(t *testing.T) {
	f := mixed(t)
	writes(t, f, 63, 31, []byte{9}, api.OK)
	tells(t, f, 63, bytesOf(63), written(bytesOf(63), 31, []byte{9}))
	dirties(t, f, 0, 63)
	f.Clean(63)
	dirties(t, f, 0)
}

// P17.2: a frame is touched by a Write that told OK, if the page changed or not, and by no other.
func TestWriteTouches(t *testing.T) {
	own := bytesOf(0)
	for _, data := range [][]byte{{255}, own[:1], own[:]} {
		f := bare(t, 3)
		writes(t, f, 0, 0, data, api.OK)
		victims(t, f, 1, 2, 0)
	}
	f := bare(t, 3)
	writes(t, f, 0, 32, []byte{1}, api.ErrLen)
	writes(t, f, 0, 0, nil, api.ErrLen)
	writes(t, f, 3, 0, []byte{1}, api.ErrNone)
	writes(t, f, 64, 0, []byte{1}, api.ErrNone)
	victims(t, f, 0, 1, 2)
	writes(t, f, 1, 0, []byte{1}, api.OK)
	writes(t, f, 2, 0, []byte{1}, api.OK)
	victims(t, f, 0, 0, 1, 2)
}

// P17.2: one write behind the other, each over what was there.
func TestWriteOnAndOn(t *testing.T) {
	f := made(t, 2)
	base := bytesOf(8)
	now := base
	holds(t, f, 1, 8, base, true)
	for k := range 400 {
		off := k * 7 % api.PageSize
		data := slices.Repeat([]byte{byte(k)}, 1+k%(api.PageSize-off))
		now = written(now, off, data)
		writes(t, f, 8, off, data, api.OK)
		if k%50 == 49 {
			f.Clean(8)
			base = now
		}
		tells(t, f, 8, base, now)
	}
}

// Rule 2: data that are handed in are not changed, nor what stands behind them, and not kept.
func TestWriteKeepsNothing(t *testing.T) {
	f := mixed(t)
	room := make([]byte, 12)
	for i := range room {
		room[i] = byte(70 + i)
	}
	was := slices.Clone(room)
	for _, e := range []api.Errno{api.OK, api.ErrLen, api.ErrNone} {
		page := map[api.Errno]int{api.OK: 5, api.ErrLen: 5, api.ErrNone: 6}[e]
		off := map[api.Errno]int{api.OK: 2, api.ErrLen: 30, api.ErrNone: 2}[e]
		writes(t, f, page, off, room[3:7], e)
		if !slices.Equal(room, was) {
			t.Errorf("%d: %v", e, room)
		}
	}
	want := written(bytesOf(5), 2, was[3:7])
	clear(room)
	tells(t, f, 5, bytesOf(5), want)
	writes(t, f, 5, 10, []byte{1}, api.OK)
	f.Clean(5)
	if !slices.Equal(room, make([]byte, 12)) {
		t.Errorf("written to: %v", room)
	}
}

// P17.2: behind Clean the Base is the Now, of a page that is held, and nothing else changes.
func TestClean(t *testing.T) {
	f := mixed(t)
	f.Clean(0)
	tells(t, f, 0, dirtied(), dirtied())
	dirties(t, f)
	f.Clean(0)
	tells(t, f, 0, dirtied(), dirtied())
	writes(t, f, 0, 3, []byte{1}, api.OK)
	tells(t, f, 0, dirtied(), written(dirtied(), 3, []byte{1}))
	writes(t, f, 5, 3, []byte{1}, api.OK)
	dirties(t, f, 0, 5)
	f.Clean(5)
	dirties(t, f, 0)
	tells(t, f, 5, written(bytesOf(5), 3, []byte{1}), written(bytesOf(5), 3, []byte{1}))
	for _, page := range append(far(), 1, 2, 5, 7, 62, 63, 64, 66, 69, 71) {
		unchanged(t, func(f *frames.Frames) { f.Clean(page) })
	}
	// It is not flushed by Clean of another.
	f = mixed(t)
	f.Clean(5)
	f.Clean(64)
	dirties(t, f, 0)
}

// P17.2: what is forgotten is told no more, and its frame is free.
func TestForget(t *testing.T) {
	for _, x := range []struct {
		name       string
		frame, key int
	}{{"a clean page", 0, 5}, {"a dirty page", 1, 0}, {"a mapping page", 2, 66}} {
		t.Run(x.name, func(t *testing.T) {
			f := mixed(t)
			forgets(t, f, 68, false)
			holdsMap(t, f, 4, 0, headsOf(0), true)
			forgets(t, f, x.key, true)
			tellsNot(t, f, x.key)
			tellsNoMap(t, f, x.key-api.MaxPages)
			writes(t, f, x.key, 0, []byte{1}, api.ErrNone)
			f.Clean(x.key)
			tellsNot(t, f, x.key)
			forgets(t, f, x.key, false)
			victims(t, f, x.frame, x.frame)
			if _, ok := f.Clock().Key(x.frame); ok {
				t.Error("it has a key")
			}
			if x.key == 0 {
				dirties(t, f)
			} else {
				dirties(t, f, 0)
			}
			// The same key again, in another frame and in the same one, under another's bytes.
			if x.key < api.MaxPages {
				holds(t, f, 4, x.key, bytesOf(70), true)
				tells(t, f, x.key, bytesOf(70), bytesOf(70))
				forgets(t, f, x.key, true)
				holds(t, f, x.frame, x.key, api.Page{}, true)
				tells(t, f, x.key, api.Page{}, api.Page{})
				return
			}
			holdsMap(t, f, 4, x.key-api.MaxPages, headsOf(70), true)
			tellsMap(t, f, x.key-api.MaxPages, headsOf(70))
			forgets(t, f, x.key, true)
			holdsMap(t, f, x.frame, x.key-api.MaxPages, headList{}, true)
			tellsMap(t, f, x.key-api.MaxPages, headList{})
		})
	}
}

// P17.2: of a key that no frame has, or whose frame is pinned, nothing is forgotten.
func TestForgetNot(t *testing.T) {
	for _, key := range append(far(), 1, 2, 7, 62, 64, 65, 67, 69, 70, 63, 71) {
		unchanged(t, func(f *frames.Frames) { forgets(t, f, key, false) })
	}
	f := mixed(t)
	f.Clock().Unpin(5)
	forgets(t, f, 71, false)
	f.Clock().Unpin(5)
	forgets(t, f, 71, true)
	tellsNoMap(t, f, 7)
	f.Clock().Pin(1)
	forgets(t, f, 0, false)
	tells(t, f, 0, bytesOf(0), dirtied())
	dirties(t, f, 0)
	f.Clock().Unpin(1)
	forgets(t, f, 0, true)
	dirties(t, f)
}

// P17.2: what was forgotten is told no more, though its key stands in its frame again through the clock alone.
func TestForgetForGood(t *testing.T) {
	f := mixed(t)
	for _, x := range []struct{ frame, key int }{{0, 5}, {1, 0}, {2, 66}} {
		forgets(t, f, x.key, true)
		f.Clock().Put(x.frame, x.key)
		tellsNot(t, f, x.key)
		tellsNoMap(t, f, x.key-api.MaxPages)
	}
	dirties(t, f)
}

// P17.2: which are dirty, rising, whatever the frames' order.
func TestDirty(t *testing.T) {
	for n := 1; n <= api.MaxFrames; n++ {
		for turn := range n {
			f := made(t, n)
			var want []int
			for i := range n {
				page := (i*55 + turn*7) % api.MaxPages
				holds(t, f, n-1-i, page, bytesOf(page), true)
			}
			dirties(t, f)
			for i := range n {
				page := (i*55 + turn*7) % api.MaxPages
				writes(t, f, page, turn, []byte{byte(1 + bytesOf(page)[turn])}, api.OK)
				want = append(want, page)
				slices.Sort(want)
				dirties(t, f, want...)
			}
			for len(want) > 0 {
				page := want[turn%len(want)]
				want = slices.DeleteFunc(want, func(x int) bool { return x == page })
				f.Clean(page)
				dirties(t, f, want...)
			}
		}
	}
}

// P17.2: the least and the greatest page are dirty, too; mapping pages never.
func TestDirtyEnds(t *testing.T) {
	f := made(t, 4)
	holdsMap(t, f, 0, 0, headsOf(0), true)
	holdsMap(t, f, 2, 7, headsOf(7), true)
	holds(t, f, 1, 63, bytesOf(63), true)
	holds(t, f, 3, 0, bytesOf(0), true)
	dirties(t, f)
	writes(t, f, 63, 0, []byte{0}, api.OK)
	writes(t, f, 0, 31, []byte{0}, api.OK)
	dirties(t, f, 0, 63)
	forgets(t, f, 0, true)
	dirties(t, f, 63)
}

// P17.2: a page is dirty as long as one byte differs, whichever it is, and clean when it is written back.
func TestWrittenBack(t *testing.T) {
	for off := range api.PageSize {
		f := mixed(t)
		was := bytesOf(5)[off]
		writes(t, f, 5, off, []byte{was}, api.OK)
		dirties(t, f, 0)
		writes(t, f, 5, off, []byte{was ^ 1<<(off%8)}, api.OK)
		dirties(t, f, 0, 5)
		holds(t, f, 0, 9, bytesOf(9), false)
		writes(t, f, 5, off, []byte{was}, api.OK)
		dirties(t, f, 0)
		tells(t, f, 5, bytesOf(5), bytesOf(5))
		// Behind Clean it is another one that it was.
		writes(t, f, 5, off, []byte{was + 1}, api.OK)
		f.Clean(5)
		dirties(t, f, 0)
		writes(t, f, 5, off, []byte{was}, api.OK)
		dirties(t, f, 0, 5)
		writes(t, f, 5, off, []byte{was + 1}, api.OK)
		holds(t, f, 0, 9, bytesOf(9), true)
	}
}

// Rule 2: what Dirty tells is new memory, its spare room too.
func TestDirtyIsNew(t *testing.T) {
	f := made(t, 5)
	for frame := range 5 {
		holds(t, f, frame, 10+frame, api.Page{}, true)
		writes(t, f, 10+frame, 0, []byte{1}, api.OK)
	}
	a, b := f.Dirty(), f.Dirty()
	for _, l := range [][]int{a[:cap(a)], b[:cap(b)]} {
		for i := range l {
			l[i] += 1000
		}
	}
	if !slices.Equal(a, list(1010, 1011, 1012, 1013, 1014)) || !slices.Equal(b, a) {
		t.Error(a, b)
	}
	dirties(t, f, 10, 11, 12, 13, 14)
	writes(t, f, 10, 1, []byte{1}, api.OK)
	tells(t, f, 14, api.Page{}, api.Page{1})
}

// Rule 2: pages and heads are handed in and told as values: what is done to them does nothing to what is held.
func TestValues(t *testing.T) {
	f := made(t, 2)
	base, h := bytesOf(1), headsOf(1)
	holds(t, f, 0, 1, base, true)
	holdsMap(t, f, 1, 1, h, true)
	base[0], h[0] = 255, 255
	b, now, _ := f.Page(1)
	told, _ := f.Map(1)
	b[1], now[2], told[3] = 255, 255, 255
	tells(t, f, 1, bytesOf(1), bytesOf(1))
	tellsMap(t, f, 1, headsOf(1))
	dirties(t, f)
}

// Rule 4: Frames are apart from all others.
func TestApart(t *testing.T) {
	a, b := mixed(t), mixed(t)
	writes(t, a, 5, 0, []byte{1}, api.OK)
	forgets(t, a, 66, true)
	a.Clean(0)
	holds(t, a, 4, 40, bytesOf(40), true)
	a.Clock().Pin(0)
	a.Clock().Victim()
	alike(t, b, mixed(t), 6)
	alike(t, mixed(t), mixed(t), 6)
}

// P17.1, P17.3: what is dropped through the clock alone is not held, dirty or not, and its frame holds no dirty page.
func TestDroppedThroughTheClock(t *testing.T) {
	f := mixed(t)
	for frame, key := range list(5, 0, 66) {
		f.Clock().Drop(frame)
		tellsNot(t, f, key)
		tellsNoMap(t, f, key-api.MaxPages)
		writes(t, f, key, 0, []byte{1}, api.ErrNone)
		f.Clean(key)
		forgets(t, f, key, false)
	}
	dirties(t, f)
	victims(t, f, 0)
	holds(t, f, 1, 0, bytesOf(33), true)
	tells(t, f, 0, bytesOf(33), bytesOf(33))
	holds(t, f, 2, 5, bytesOf(34), true)
	tells(t, f, 5, bytesOf(34), bytesOf(34))
	holdsMap(t, f, 0, 2, headsOf(35), true)
	tellsMap(t, f, 2, headsOf(35))
	dirties(t, f)
}

// P17.1, P17.3: a key that is put through the clock alone is in its frame, and what the frame held is held no longer; but what was not held is not told.
func TestPutThroughTheClock(t *testing.T) {
	f := mixed(t)
	for frame, key := range list(9, 10, 68) {
		f.Clock().Put(frame, key)
	}
	f.Clock().Put(4, 200)
	keys(t, f, 9, 10, 68, 63, 200, 71)
	tellsNot(t, f, 5, 0, 9, 10, 68, 200)
	tellsNoMap(t, f, 2, 4, 136)
	dirties(t, f)
	for _, key := range list(5, 0, 9, 10, 68, 200) {
		writes(t, f, key, 0, []byte{1}, api.ErrNone)
		f.Clean(key)
	}
	dirties(t, f)
	// It is in another frame.
	holds(t, f, 0, 10, bytesOf(10), false)
	holdsMap(t, f, 0, 4, headsOf(4), false)
	// No page is dirty there, so that what is put may be held, or another.
	holds(t, f, 1, 10, bytesOf(10), true)
	tells(t, f, 10, bytesOf(10), bytesOf(10))
	holds(t, f, 0, 5, bytesOf(50), true)
	tells(t, f, 5, bytesOf(50), bytesOf(50))
	holdsMap(t, f, 4, 0, headsOf(0), true)
	forgets(t, f, 68, true)
	forgets(t, f, 68, false)
	forgets(t, f, 200, false)
	victims(t, f, 2)
	// New ones hold nothing, whatever key is put: not the first page either.
	f = made(t, 2)
	f.Clock().Put(0, 0)
	f.Clock().Put(1, 64)
	tellsNot(t, f, 0, 64)
	tellsNoMap(t, f, 0)
	writes(t, f, 0, 0, []byte{1}, api.ErrNone)
	dirties(t, f)
	f.Clock().Put(1, math.MaxInt)
	forgets(t, f, math.MaxInt, true)
	forgets(t, f, 0, true)
	keys(t, f, -1, -1)
}

// P17.3: what is told of a key that is taken and put back through the clock alone is never older than what was held last.
func TestNothingOldIsTold(t *testing.T) {
	f := made(t, 2)
	holds(t, f, 0, 5, bytesOf(1), true)
	f.Clock().Drop(0)
	holds(t, f, 1, 5, bytesOf(2), true)
	f.Clock().Drop(1)
	f.Clock().Put(0, 5)
	tellsNot(t, f, 5)
	f.Clock().Drop(0)
	f.Clock().Put(1, 5)
	tells(t, f, 5, bytesOf(2), bytesOf(2))

	f = made(t, 2)
	holdsMap(t, f, 0, 5, headsOf(1), true)
	f.Clock().Drop(0)
	f.Clock().Put(1, 69)
	forgets(t, f, 69, true)
	f.Clock().Put(0, 69)
	tellsNoMap(t, f, 5)

	// What a frame held ahead of a key that was put there and forgotten is gone, too.
	f = made(t, 1)
	holds(t, f, 0, 5, bytesOf(1), true)
	f.Clock().Put(0, 6)
	forgets(t, f, 6, true)
	f.Clock().Put(0, 5)
	tellsNot(t, f, 5)
	dirties(t, f)
}

// P17.3: what a cache does: each page goes into the victim, what is dirty is flushed ahead of it; each page is at all times what was written last.
func TestAsACache(t *testing.T) {
	for n := 1; n <= api.MaxFrames; n++ {
		f := made(t, n)
		var flushed, now [api.MaxPages]api.Page
		for k := range 60 * n {
			page := (k*k + k/7) % (2*n + 3)
			if _, _, ok := f.Page(page); !ok {
				frame, ok := f.Clock().Victim()
				if !ok {
					t.Fatal("no victim")
				}
				if !f.Hold(frame, page, flushed[page]) {
					for _, dirty := range f.Dirty() {
						_, flushed[dirty], _ = f.Page(dirty)
						f.Clean(dirty)
					}
					holds(t, f, frame, page, flushed[page], true)
				}
			}
			if k%3 == 0 {
				data := []byte{byte(k), byte(k / 3), 7}
				writes(t, f, page, k%29, data, api.OK)
				now[page] = written(now[page], k%29, data)
			}
			tells(t, f, page, flushed[page], now[page])
			for _, dirty := range f.Dirty() {
				tells(t, f, dirty, flushed[dirty], now[dirty])
			}
		}
	}
}

// call is one of a play: x is a page, a mapping page's id or a key, seed what is held or written.
type call struct {
	name                string
	frame, x, off, seed int
	data                int
}

// bytes are what a Write writes.
func (a call) bytes() []byte {
	l := make([]byte, max(0, a.data))
	for i := range l {
		l[i] = byte(a.seed + i*(a.seed%3))
	}
	return l
}

// base is what a Hold holds.
func (a call) base() api.Page {
	return written(api.Page{}, 0, call{seed: a.seed, data: api.PageSize}.bytes())
}

// heads are what a HoldMap holds.
func (a call) heads() headList { return headList{a.seed, 1, a.seed} }

// answer is what a call told, and nothing else.
type answer struct {
	base, now api.Page
	heads     headList
	dirty     string
	n         int
	e         api.Errno
	ok        bool
}

// ask asks Frames.
func (a call) ask(f *frames.Frames) (r answer) {
	switch a.name {
	case "Hold":
		r.ok = f.Hold(a.frame, a.x, a.base())
	case "HoldMap":
		r.ok = f.HoldMap(a.frame, a.x, a.heads())
	case "Page":
		r.base, r.now, r.ok = f.Page(a.x)
	case "Map":
		r.heads, r.ok = f.Map(a.x)
	case "Write":
		r.e = f.Write(a.x, a.off, a.bytes())
	case "Clean":
		f.Clean(a.x)
	case "Forget":
		r.ok = f.Forget(a.x)
	case "Dirty":
		r.dirty = fmt.Sprint(f.Dirty())
	default:
		return a.askClock(f.Clock())
	}
	return r
}

// askClock asks a clock.
func (a call) askClock(c *clock.Clock) (r answer) {
	switch a.name {
	case "Put":
		r.ok = c.Put(a.frame, a.x)
	case "Drop":
		r.ok = c.Drop(a.frame)
	case "Pin":
		r.ok = c.Pin(a.frame)
	case "Unpin":
		r.ok = c.Unpin(a.frame)
	case "Key":
		r.n, r.ok = c.Key(a.frame)
	case "Pins":
		r.n = c.Pins(a.frame)
	case "Victim":
		r.n, r.ok = c.Victim()
	}
	return r
}

// second is a second Frames, by what the chapter says: a clock of its own, and by keys what was held last, and where.
type second struct {
	n    int
	c    *clock.Clock
	last map[int]held
}

type held struct {
	frame     int
	base, now api.Page
	heads     headList
}

func secondOf(t *testing.T, n int) *second {
	t.Helper()
	c, e := clock.New(n)
	if e != api.OK {
		t.Fatal(e)
	}
	return &second{n: n, c: c, last: map[int]held{}}
}

// of is what a key's frame holds; false, if that is nothing.
func (s *second) of(key int) (held, bool) {
	frame, ok := s.c.Find(key)
	h, there := s.last[key]
	return h, ok && there && h.frame == frame
}

func (s *second) hold(key int, h held) (r answer) {
	if its, ok := s.c.Key(h.frame); ok {
		if was, ok := s.of(its); ok && was.base != was.now {
			return r
		}
	}
	if !s.c.Put(h.frame, key) {
		return r
	}
	s.empty(h.frame)
	s.last[key] = h
	return answer{ok: true}
}

// empty takes away what a frame was given.
func (s *second) empty(frame int) {
	for key, h := range s.last {
		if h.frame == frame {
			delete(s.last, key)
		}
	}
}

// dirty is the pages that are dirty, by going through all.
func (s *second) dirty() []int {
	var l []int
	for page := range api.MaxPages {
		if h, ok := s.of(page); ok && h.base != h.now {
			l = append(l, page)
		}
	}
	return l
}

// ask asks the second Frames.
func (s *second) ask(a call) (r answer) {
	aPage := a.x >= 0 && a.x < api.MaxPages
	aMap := a.x >= 0 && a.x < maps
	switch a.name {
	case "Hold":
		if aPage {
			return s.hold(a.x, held{frame: a.frame, base: a.base(), now: a.base()})
		}
	case "HoldMap":
		if aMap {
			return s.hold(api.MaxPages+a.x, held{frame: a.frame, heads: a.heads()})
		}
	case "Page":
		if h, ok := s.of(a.x); ok && aPage {
			return answer{base: h.base, now: h.now, ok: true}
		}
	case "Map":
		if aMap {
			if h, ok := s.of(api.MaxPages + a.x); ok {
				return answer{heads: h.heads, ok: true}
			}
		}
	case "Write":
		r.e = s.write(a, aPage)
	case "Clean":
		if h, ok := s.of(a.x); ok {
			h.base = h.now
			s.last[a.x] = h
		}
	case "Forget":
		if frame, ok := s.c.Find(a.x); ok && s.c.Drop(frame) {
			s.empty(frame)
			delete(s.last, a.x)
			return answer{ok: true}
		}
	case "Dirty":
		r.dirty = fmt.Sprint(s.dirty())
	default:
		return a.askClock(s.c)
	}
	return r
}

func (s *second) write(a call, aPage bool) api.Errno {
	h, ok := s.of(a.x)
	switch {
	case !ok || !aPage:
		return api.ErrNone
	case a.off < 0 || a.data <= 0 || a.off >= api.PageSize || a.off+a.data > api.PageSize:
		return api.ErrLen
	}
	h.now = written(h.now, a.off, a.bytes())
	s.last[a.x] = h
	s.c.Touch(h.frame)
	return api.OK
}

// play is Frames and the second ones, through the same calls.
type play struct {
	t    *testing.T
	f    *frames.Frames
	s    *second
	said []call
}

func playOf(t *testing.T, n int) *play {
	t.Helper()
	return &play{t: t, f: made(t, n), s: secondOf(t, n)}
}

// does holds the answer of one call more.
func (p *play) does(a call) {
	p.t.Helper()
	p.said = append(p.said, a)
	want := p.s.ask(a)
	if got := a.ask(p.f); got != want {
		p.t.Fatalf("of %d frames: %+v: %v, not %v", p.s.n, p.said, got, want)
	}
}

// seen holds all that is to be seen of these keys.
func (p *play) seen(keys []int) {
	p.t.Helper()
	said := len(p.said)
	p.does(call{name: "Dirty"})
	for frame := range p.s.n {
		p.does(call{name: "Key", frame: frame})
		p.does(call{name: "Pins", frame: frame})
	}
	for _, key := range keys {
		p.does(call{name: "Page", x: key})
		p.does(call{name: "Map", x: key - api.MaxPages})
	}
	p.said = p.said[:said]
}

// ends holds what is not to be seen, the marks and the hand.
func (p *play) ends() {
	p.t.Helper()
	if x, y := rounds(p.f.Clock(), p.s.n), rounds(p.s.c, p.s.n); !slices.Equal(x, y) {
		p.t.Fatalf("of %d frames: %+v: victims %v, not %v", p.s.n, p.said, x, y)
	}
}

// state is where a play is: each frame's key and pins, and what each of a few keys was given.
type state struct {
	frames [2]struct{ key, pins int }
	given  [4]struct {
		there bool
		held
	}
}

func (p *play) state(keys []int) (x state) {
	for frame := range p.s.n {
		key, ok := p.s.c.Key(frame)
		if !ok {
			key = -1
		}
		x.frames[frame].key, x.frames[frame].pins = key, p.s.c.Pins(frame)
	}
	for i, key := range keys {
		x.given[i].held, x.given[i].there = p.s.last[key]
	}
	return x
}

// calls are those of n frames and a few keys, what may not be among them; alone: also those that go through the clock alone.
func calls(n int, keys []int, alone bool) []call {
	l := []call{{name: "Victim"}}
	for _, key := range append(slices.Clone(keys), -1) {
		for frame := -1; frame <= n; frame++ {
			for seed := range 2 {
				l = append(l, call{name: "Hold", frame: frame, x: key, seed: 3 * seed}, call{name: "HoldMap", frame: frame, x: key - api.MaxPages, seed: seed})
			}
			if alone {
				l = append(l, call{name: "Put", frame: frame, x: key})
			}
		}
		l = append(l, call{name: "Clean", x: key}, call{name: "Forget", x: key})
		for seed := range 2 {
			l = append(l, call{name: "Write", x: key, seed: 3 * seed, data: api.PageSize})
		}
		l = append(l, call{name: "Write", x: key, seed: 3, data: api.PageSize + 1})
	}
	for frame := range n {
		l = append(l, call{name: "Pin", frame: frame}, call{name: "Unpin", frame: frame})
		if alone {
			l = append(l, call{name: "Drop", frame: frame})
		}
	}
	return l
}

// explore makes each call from each state to which calls lead, no frame being pinned more than once; it tells how many there are.
func explore(t *testing.T, n int, keys []int, alone bool) int {
	t.Helper()
	all := calls(n, keys, alone)
	ways := map[state][]call{playOf(t, n).state(keys): nil}
	next := [][]call{nil}
	for len(next) > 0 {
		way := next[0]
		next = next[1:]
		for _, a := range all {
			p := playOf(t, n)
			for _, b := range way {
				p.does(b)
			}
			p.does(a)
			p.seen(keys)
			to := p.state(keys)
			if _, ok := ways[to]; !ok && to.frames[0].pins <= 1 && to.frames[1].pins <= 1 {
				ways[to] = slices.Clone(p.said)
				next = append(next, ways[to])
			}
			p.ends()
		}
	}
	return len(ways)
}

// P17.1 to P17.3: from each state each call, if all goes through the Frames.
func TestEachState(t *testing.T) {
	// Of one frame: nothing, or one of two pages (Base and Now each of two) or a mapping page (of two), pinned or not.
	if n := explore(t, 1, list(0, 63, 64), false); n != 1+2*(2*4+2) {
		t.Errorf("%d states of one frame", n)
	}
	// Of two: in neither, in either, or two with unlike keys.
	if n := explore(t, 2, list(0, 63, 64), false); n != 1+2*20+2*(8*8+2*8*4) {
		t.Errorf("%d states of two frames", n)
	}
}

// P17.1 to P17.3: from each state each call, with such as go through the clock alone.
func TestEachStateThroughTheClock(t *testing.T) {
	for _, n := range list(explore(t, 1, list(0, 1, 71), true), explore(t, 2, list(5, 69), true)) {
		if n < 50 {
			t.Errorf("%d states", n)
		}
	}
}

// P17.1 to P17.3: long plays of each number of frames, by a rule that goes through many numbers.
func TestLongPlays(t *testing.T) {
	for n := 1; n <= api.MaxFrames; n++ {
		for turn := range 4 {
			number := uint32(1 + 977*turn + n)
			under := func(k int) int {
				number = number*1664525 + 1013904223
				return int(number>>8) % k
			}
			keys := list(-1, 64, 65, 71, 72, math.MinInt, math.MaxInt)
			for key := range n + 2 {
				keys = append(keys, key*3)
			}
			names := []string{"Victim", "Hold", "Hold", "Hold", "HoldMap", "Write", "Write", "Write", "Clean", "Forget", "Pin", "Unpin"}
			if turn > 1 {
				names = append(names, "Put", "Drop")
			}
			p := playOf(t, n)
			for range 1200 {
				a := call{name: names[under(len(names))], frame: under(n+2) - 1, x: keys[under(len(keys))], off: under(35) - 2, seed: under(4), data: under(7) * under(7)}
				if a.name == "HoldMap" {
					a.x -= api.MaxPages
				}
				p.does(a)
				if under(8) == 0 {
					p.seen(keys)
					p.said = nil
				}
			}
			p.seen(keys)
			p.ends()
		}
	}
}
