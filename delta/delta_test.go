package delta_test

import (
	"math"
	"slices"
	"testing"

	"silt/api"
	"silt/delta"
)

// pages are pages of several kinds: all alike, rising, falling, the greatest bytes, a few bytes among zeros.
func pages() []api.Page {
	l := []api.Page{{}, {5, 6, 7, 31: 9}, {31: 1}, {1}, {15: 7, 16: 8}}
	var up, down, most api.Page
	for i := range up {
		up[i], down[i], most[i] = byte(i+1), byte(200-3*i), 255
	}
	return append(l, up, down, most)
}

// turned is a page with all bytes from off to end (which is not turned) made others by the same turn.
func turned(p api.Page, off, end int, by byte) api.Page {
	for i := off; i < end; i++ {
		p[i] ^= by
	}
	return p
}

// filled are n bytes, each told from those beside it, and none of them 0.
func filled(n int) []byte {
	l := make([]byte, n)
	for i := range l {
		l[i] = byte(i%200 + 50)
	}
	return l
}

// laid is a page with bytes at off, one behind the other.
func laid(p api.Page, off int, bytes []byte) api.Page {
	for i, x := range bytes {
		p[off+i] = x
	}
	return p
}

// differ holds that Diff tells b's bytes from off up to end, and that Apply makes b of a and them.
func differ(t *testing.T, a, b api.Page, off, end int) {
	t.Helper()
	at, bytes, ok := delta.Diff(a, b)
	if !ok || at != off || !slices.Equal(bytes, b[off:end]) {
		t.Errorf("Diff %v, %v: %d, %v, %v, not from %d up to %d", a, b, at, bytes, ok, off, end)
		return
	}
	if p, e := delta.Apply(a, at, bytes); e != api.OK || p != b {
		t.Errorf("Apply %v, %d, %v: %v, %v, not %v", a, at, bytes, p, e, b)
	}
}

// noDiff holds that Diff answers false, and nothing beside it.
func noDiff(t *testing.T, a, b api.Page) {
	t.Helper()
	if off, bytes, ok := delta.Diff(a, b); ok || off != 0 || len(bytes) != 0 {
		t.Errorf("Diff %v, %v: %d, %v, %v", a, b, off, bytes, ok)
	}
}

// fits holds that Apply lays bytes.
func fits(t *testing.T, p api.Page, off int, bytes []byte) {
	t.Helper()
	if q, e := delta.Apply(p, off, bytes); e != api.OK || q != laid(p, off, bytes) {
		t.Errorf("Apply %v, %d, %v: %v, %v", p, off, bytes, q, e)
	}
}

// fitsNot holds that Apply answers ErrArg, and no page.
func fitsNot(t *testing.T, p api.Page, off int, bytes []byte) {
	t.Helper()
	if q, e := delta.Apply(p, off, bytes); e != api.ErrArg || q != (api.Page{}) {
		t.Errorf("Apply %v, %d, %v: %v, %v", p, off, bytes, q, e)
	}
}

// P7.1: what differs, written out.
func TestDiff(t *testing.T) {
	a := api.Page{5, 6, 7, 31: 9}
	for i, x := range []struct {
		b     api.Page
		off   int
		bytes []byte
	}{
		{api.Page{5, 60, 7, 31: 9}, 1, []byte{60}},
		{api.Page{1, 6, 3, 31: 9}, 0, []byte{1, 6, 3}},
		{api.Page{5, 6, 7, 31: 8}, 31, []byte{8}},
		{api.Page{5, 6, 7}, 31, []byte{0}},
		{api.Page{4, 6, 7, 31: 9}, 0, []byte{4}},
		{api.Page{5, 6, 7, 16: 1, 31: 1}, 16, []byte{1, 0, 0, 0, 0, 0, 0, 0, 0, 0, 0, 0, 0, 0, 0, 1}},
		{api.Page{0, 6, 7, 15: 2, 31: 9}, 0, []byte{0, 6, 7, 0, 0, 0, 0, 0, 0, 0, 0, 0, 0, 0, 0, 2}},
	} {
		off, bytes, ok := delta.Diff(a, x.b)
		if off != x.off || !slices.Equal(bytes, x.bytes) || !ok {
			t.Errorf("%d: %d, %v, %v", i, off, bytes, ok)
		}
	}
	noDiff(t, a, api.Page{1, 6, 7, 16: 1, 31: 9})
	noDiff(t, a, api.Page{5, 6, 7, 15: 1, 31: 8})
	noDiff(t, a, api.Page{1, 6, 7, 31: 8})
	noDiff(t, a, a)
}

// P7.1: of two pages that are alike: false.
func TestDiffAlike(t *testing.T) {
	for _, p := range pages() {
		noDiff(t, p, p)
	}
}

// P7.1, P7.2: one byte that differs, at each place of the page, by each bit and by all.
func TestDiffOneByte(t *testing.T) {
	for _, p := range pages() {
		for at := range p {
			for _, by := range []byte{1, 2, 4, 8, 16, 32, 64, 128, 255} {
				differ(t, p, turned(p, at, at+1, by), at, at+1)
			}
		}
	}
}

// P7.1, P7.2: all from one place up to another differ: no more than MaxDelta of them are told.
func TestDiffSpans(t *testing.T) {
	for _, p := range pages() {
		for off := range p {
			for end := off + 1; end <= len(p); end++ {
				spanHolds(t, p, turned(p, off, end, 0x81), off, end)
			}
		}
	}
}

// P7.1, P7.2: bytes between the first and the last one that differ are alike, and are told, too.
func TestDiffAlikeBetween(t *testing.T) {
	for _, p := range pages() {
		for off := range p {
			for last := off + 1; last < len(p); last++ {
				b := turned(turned(p, off, off+1, 0x40), last, last+1, 3)
				spanHolds(t, p, b, off, last+1)
				middle := off + (last-off)/2
				if middle > off {
					spanHolds(t, p, turned(b, middle, middle+1, 9), off, last+1)
				}
			}
		}
	}
}

// spanHolds holds that a and b, which differ first at off and last ahead of end, do so by Diff, if they are not too many.
func spanHolds(t *testing.T, a, b api.Page, off, end int) {
	t.Helper()
	if end-off > 16 {
		noDiff(t, a, b)
		return
	}
	differ(t, a, b, off, end)
	differ(t, b, a, off, end)
}

// P7.1: just MaxDelta bytes, and one more, at the page's beginning, within it, and at its end.
func TestDiffMost(t *testing.T) {
	for _, p := range pages() {
		for _, off := range []int{0, 1, 7, 15, 16} {
			differ(t, p, turned(p, off, off+16, 0xff), off, off+16)
		}
		for _, off := range []int{0, 1, 7, 14, 15} {
			noDiff(t, p, turned(p, off, off+17, 0xff))
		}
		noDiff(t, p, turned(p, 0, 32, 0xff))
	}
}

// P7.2: Apply of Diff to the first page is the second one, of all two pages of which Diff tells something.
func TestApplyOfDiff(t *testing.T) {
	told := 0
	for _, a := range pages() {
		for _, b := range pages() {
			off, bytes, ok := delta.Diff(a, b)
			if !ok {
				continue
			}
			told++
			if p, e := delta.Apply(a, off, bytes); e != api.OK || p != b {
				t.Errorf("Apply of Diff %v, %v: %v, %v", a, b, p, e)
			}
		}
	}
	if told == 0 {
		t.Error("Diff told nothing of any two pages")
	}
}

// P7.1: each number of bytes at each place: laid, if they end within the page, ErrArg, if they end behind it.
func TestApplyPlaces(t *testing.T) {
	for _, p := range pages() {
		for n := 1; n <= 40; n++ {
			for off := -3; off <= 40; off++ {
				if off >= 0 && off+n <= 32 {
					fits(t, p, off, filled(n))
				} else {
					fitsNot(t, p, off, filled(n))
				}
			}
		}
	}
}

// P7.1: the edges: a page's first and last byte, bytes that end just with the page, and one beyond it, as many as a page has, and more, more than MaxDelta.
func TestApplyEdges(t *testing.T) {
	p := api.Page{1, 2, 3, 30: 8, 31: 9}
	for _, x := range []struct{ off, n int }{{0, 1}, {31, 1}, {30, 2}, {16, 16}, {15, 17}, {0, 17}, {1, 31}, {0, 32}, {12, 20}} {
		fits(t, p, x.off, filled(x.n))
	}
	for _, x := range []struct{ off, n int }{{32, 1}, {31, 2}, {30, 3}, {16, 17}, {15, 18}, {1, 32}, {0, 33}, {-1, 33}, {-1, 1}, {33, 1}, {0, 64}, {0, 256}, {0, 256 + 16}, {0, 65536 + 1}} {
		fitsNot(t, p, x.off, filled(x.n))
	}
}

// P7.1: bytes that say what the page says already are laid, too.
func TestApplyAlike(t *testing.T) {
	for _, p := range pages() {
		for off := range p {
			fits(t, p, off, slices.Clone(p[off:]))
		}
	}
}

// P7.1: no bytes fit nowhere, nil and empty ones alike, with spare room or without.
func TestApplyNoBytes(t *testing.T) {
	for _, p := range pages() {
		for _, off := range append(far(), 0, 1, 16, 31, 32, 33) {
			for _, none := range [][]byte{nil, {}, make([]byte, 0, 8), filled(8)[:0]} {
				fitsNot(t, p, off, none)
			}
		}
	}
}

// far are places that no page has, though what they come to with some bytes more may pass an int, or their lowest bits may be a place.
func far() []int {
	l := []int{-1 << 32, -1<<32 + 1, -1 << 16, -256, -255, -64, -33, -32, -31, -16, -2, -1, 32, 33, 63, 64, 255, 256, 1 << 16, 1<<16 + 1, 1 << 31, 1 << 32, 1<<32 + 1, 1 << 62, 1<<62 + 5, math.MinInt32, math.MaxInt32, math.MaxUint32}
	for i := range 40 {
		l = append(l, math.MinInt+i, math.MaxInt-i)
	}
	return l
}

// P7.1: an off that no page has is told, however great or small, with few bytes and with many.
func TestApplyFar(t *testing.T) {
	p := api.Page{1, 2, 3, 31: 9}
	for _, off := range far() {
		for _, n := range []int{1, 2, 15, 16, 17, 31, 32, 33, 64} {
			fitsNot(t, p, off, filled(n))
		}
	}
}

// Rule 2: neither call changes what it is given, the bytes' spare room included.
func TestNothingChanged(t *testing.T) {
	a, b := api.Page{1, 2, 3, 31: 9}, api.Page{1, 7, 3, 12: 4, 31: 9}
	room := filled(40)
	was, wasA, wasB := slices.Clone(room), a, b
	for n := range 41 {
		for _, off := range []int{-1, 0, 5, 20, 31, 32, math.MaxInt} {
			delta.Apply(a, off, room[:n])
		}
	}
	delta.Diff(a, b)
	delta.Diff(b, a)
	delta.Diff(a, a)
	if a != wasA || b != wasB || !slices.Equal(room, was) {
		t.Errorf("changed: %v, %v, %v", a, b, room)
	}
	// A page may be handed in with bytes of its own.
	if p, e := delta.Apply(a, 4, a[:3]); e != api.OK || p != (api.Page{1, 2, 3, 0, 1, 2, 3, 31: 9}) || a != wasA {
		t.Errorf("of a page's own bytes: %v, %v, %v", p, e, a)
	}
}

// Rule 2: what Diff tells is new memory, its spare room too: it shares none with a page, nor with another answer.
func TestNewMemory(t *testing.T) {
	a, b := api.Page{1, 2, 3, 31: 9}, api.Page{1, 7, 3, 12: 4, 31: 9}
	wasA, wasB := a, b
	_, one, _ := delta.Diff(a, b)
	_, two, _ := delta.Diff(a, b)
	spoil(one)
	if !slices.Equal(two, wasB[1:13]) || a != wasA || b != wasB {
		t.Errorf("shared: %v, %v, %v", two, a, b)
	}
	differ(t, a, b, 1, 13)
	bytes := []byte{4, 5, 6}
	p, _ := delta.Apply(a, 2, bytes)
	spoil(bytes)
	if p != (api.Page{1, 2, 4, 5, 6, 31: 9}) {
		t.Errorf("Apply shares its bytes: %v", p)
	}
}

// spoil turns all of a list's bytes, its spare room included.
func spoil(l []byte) {
	l = l[:cap(l)]
	for i := range l {
		l[i] ^= 0xff
	}
}

// Rule 4: what was asked before changes no answer.
func TestAnswersStay(t *testing.T) {
	a, b := api.Page{1, 2, 3, 31: 9}, api.Page{1, 7, 3, 12: 4, 31: 9}
	for range 3 {
		differ(t, a, b, 1, 13)
		noDiff(t, a, turned(a, 3, 20, 1))
		fitsNot(t, a, 31, filled(2))
		noDiff(t, b, b)
		fits(t, b, 30, filled(2))
		fitsNot(t, b, 3, nil)
	}
}
