package dev_test

import (
	"bytes"
	"math"
	"slices"
	"testing"

	"silt/api"
	"silt/dev"
)

func newDev(t *testing.T, n int) *dev.Dev {
	t.Helper()
	d, e := dev.New(n)
	if e != api.OK || d == nil {
		t.Fatalf("New %d: %v, %v", n, d, e)
	}
	return d
}

// sector is one whose bytes all hang on n, the last one too.
func sector(n int) (s api.Sector) {
	for i := range s {
		s[i] = byte(n + i*7)
	}
	return s
}

func put(t *testing.T, d *dev.Dev, i int, s api.Sector) {
	t.Helper()
	if e := d.Write(i, s); e != api.OK {
		t.Errorf("Write %d: %v", i, e)
	}
}

func sync(t *testing.T, d *dev.Dev) {
	t.Helper()
	if e := d.Flush(); e != api.OK {
		t.Errorf("Flush: %v", e)
	}
}

func reads(t *testing.T, d *dev.Dev, name string, want ...api.Sector) {
	t.Helper()
	if d.Len() != len(want) {
		t.Errorf("%s: %d sectors, not %d", name, d.Len(), len(want))
	}
	for i, s := range want {
		if got, e := d.Read(i); e != api.OK || got != s {
			t.Errorf("%s: sector %d: %v, %v, not %v", name, i, got, e, s)
		}
	}
}

func counts(t *testing.T, d *dev.Dev, name string, loose, done int) {
	t.Helper()
	if d.Loose() != loose || d.Done() != done {
		t.Errorf("%s: %d loose and %d done, not %d and %d", name, d.Loose(), d.Done(), loose, done)
	}
}

// P2.1: New, Len.
func TestNew(t *testing.T) {
	for _, n := range []int{math.MinInt, -1024, -1, 0, 1025, 1026, 2048, math.MaxInt32 + 1, math.MaxInt} {
		if d, e := dev.New(n); d != nil || e != api.ErrArg {
			t.Errorf("New %d: %v, %v", n, d, e)
		}
	}
	for _, n := range []int{1, 2, 3, 1023, 1024} {
		d := newDev(t, n)
		reads(t, d, "new", make([]api.Sector, n)...)
		counts(t, d, "new", 0, 0)
	}
}

// P2.1: a new device has no failure, and another one's writes are not its own.
func TestNewDevicesAreApart(t *testing.T) {
	a, b := newDev(t, 2), newDev(t, 2)
	a.Fail(0)
	for range 100 {
		put(t, b, 0, sector(1))
		sync(t, b)
	}
	reads(t, a, "a", api.Sector{}, api.Sector{})
	counts(t, a, "a", 0, 0)
	if a.Flush() != api.ErrDevice {
		t.Error("the failure went to another device")
	}
}

// P2.1: Read, Write, Flush, Loose, Done.
func TestReadWriteFlush(t *testing.T) {
	d := newDev(t, 3)
	put(t, d, 1, sector(10))
	put(t, d, 0, sector(20))
	put(t, d, 1, sector(30))
	reads(t, d, "loose", sector(20), sector(30), api.Sector{})
	counts(t, d, "loose", 3, 3)
	sync(t, d)
	reads(t, d, "flushed", sector(20), sector(30), api.Sector{})
	counts(t, d, "flushed", 0, 4)
	sync(t, d)
	counts(t, d, "nothing to flush", 0, 5)
	put(t, d, 2, sector(40))
	put(t, d, 1, api.Sector{})
	reads(t, d, "over", sector(20), api.Sector{}, sector(40))
	counts(t, d, "over", 2, 7)
	d.Crash(nil)
	reads(t, d, "what Flush did", sector(20), sector(30), api.Sector{})
}

// P2.1: the edges of the sectors; a write of none is none of those that go through, nor the one that fails.
func TestSectorsThereAreNot(t *testing.T) {
	for _, n := range []int{1, 2, 1024} {
		d := newDev(t, n)
		put(t, d, 0, sector(1))
		put(t, d, n-1, sector(2))
		d.Fail(0)
		for _, i := range []int{math.MinInt, -n, -1, n, n + 1, 1 << 32, math.MaxInt} {
			if s, e := d.Read(i); s != (api.Sector{}) || e != api.ErrArg {
				t.Errorf("Read %d of %d: %v, %v", i, n, s, e)
			}
			if e := d.Write(i, sector(3)); e != api.ErrArg {
				t.Errorf("Write %d of %d: %v", i, n, e)
			}
		}
		counts(t, d, "no sector", 2, 2)
		if s, e := d.Read(n - 1); s != sector(2) || e != api.OK {
			t.Errorf("the last one of %d: %v, %v", n, s, e)
		}
		if e := d.Write(n-1, sector(4)); e != api.ErrDevice {
			t.Errorf("the failure went to a write of no sector: %v", e)
		}
	}
}

// P2.1: what is handed in or told is nobody else's.
func TestSectorsAreApart(t *testing.T) {
	d := newDev(t, 2)
	s := sector(1)
	put(t, d, 0, s)
	s[0]++
	for range 2 {
		got, _ := d.Read(0)
		got[63]++
		reads(t, d, "changed outside", sector(1), api.Sector{})
		sync(t, d)
	}
}

// P2.1: the failure, ahead of it, it, and behind it.
func TestFail(t *testing.T) {
	for n := range 12 {
		d := newDev(t, 2)
		put(t, d, 0, sector(1))
		d.Fail(n)
		loose, done := 1, 1
		for k := range 24 {
			d.Read(0)
			d.Write(-1, sector(9))
			var e api.Errno
			was, grown := loose, 1
			if k%3 == 2 {
				e, grown = d.Flush(), -loose
			} else {
				e = d.Write(1, sector(k))
			}
			if (k == n) != (e == api.ErrDevice) || (k != n) != (e == api.OK) {
				t.Errorf("Fail %d: call %d tells %v", n, k, e)
			}
			if k != n {
				loose, done = was+grown, done+1
			}
			counts(t, d, "failure", loose, done)
		}
	}
}

// P2.1: the one that fails does nothing.
func TestWhatFailsDoesNothing(t *testing.T) {
	d := newDev(t, 2)
	put(t, d, 0, sector(1))
	d.Fail(0)
	if e := d.Write(0, sector(2)); e != api.ErrDevice {
		t.Error("write:", e)
	}
	reads(t, d, "a write that fails", sector(1), api.Sector{})
	d.Fail(0)
	if e := d.Flush(); e != api.ErrDevice {
		t.Error("flush:", e)
	}
	reads(t, d, "a flush that fails", sector(1), api.Sector{})
	counts(t, d, "two failures", 1, 1)
	d.Crash(nil)
	reads(t, d, "what was loose stays so", api.Sector{}, api.Sector{})
}

// P2.1: failures below 0, far ahead, and set anew.
func TestFailuresThatDontCome(t *testing.T) {
	for _, n := range []int{math.MinInt, -2, -1, 1000, math.MaxInt32, math.MaxInt} {
		d := newDev(t, 1)
		d.Fail(0)
		d.Fail(n)
		for range 500 {
			put(t, d, 0, sector(n))
			sync(t, d)
		}
		counts(t, d, "none fails", 0, 1000)
		if e := d.Flush(); (e == api.ErrDevice) != (n == 1000) {
			t.Errorf("Fail %d: %v", n, e)
		}
	}
	d := newDev(t, 1)
	d.Fail(3)
	sync(t, d)
	d.Fail(3)
	for range 3 {
		sync(t, d)
	}
	if e := d.Flush(); e != api.ErrDevice {
		t.Error("the failure is the one that was set last:", e)
	}
	counts(t, d, "Fail changes no count", 0, 4)
}

// P2.1, P2.2: a device that is nil.
func TestNilDevice(t *testing.T) {
	var d *dev.Dev
	d.Fail(0)
	for range 2 {
		if s, e := d.Read(0); s != (api.Sector{}) || e != api.ErrArg {
			t.Error("Read:", s, e)
		}
		if e := d.Write(0, sector(1)); e != api.ErrArg {
			t.Error("Write:", e)
		}
		if e := d.Flush(); e != api.ErrArg {
			t.Error("Flush:", e)
		}
		if d.Len() != 0 || d.Loose() != 0 || d.Done() != 0 {
			t.Error("counts:", d.Len(), d.Loose(), d.Done())
		}
		d.Crash(nil)
		d.Crash([]byte{1})
	}
}

// P2.2: lists shorter and longer than the loose writes, bytes odd and even.
func TestCrash(t *testing.T) {
	for _, x := range []struct {
		keep   []byte
		first  int
		second int
	}{
		{nil, 1, 2},
		{[]byte{}, 1, 2},
		{[]byte{0, 0, 0}, 1, 2},
		{[]byte{1}, 1, 10},
		{[]byte{1, 1, 1}[:1], 1, 10},
		{[]byte{0, 1}, 20, 2},
		{[]byte{1, 1}, 20, 10},
		{[]byte{0, 0, 1}, 1, 30},
		{[]byte{1, 0, 1}, 1, 30},
		{[]byte{1, 1, 1}, 20, 30},
		{[]byte{255, 254, 128}, 1, 10},
		{[]byte{2, 3, 4}, 20, 2},
		{[]byte{127, 129, 0}, 20, 10},
		{[]byte{0, 0, 0, 1, 1}, 1, 2},
		{[]byte{1, 1, 1, 1, 1, 1, 1}, 20, 30},
	} {
		d := newDev(t, 2)
		put(t, d, 0, sector(1))
		put(t, d, 1, sector(2))
		sync(t, d)
		put(t, d, 1, sector(10))
		put(t, d, 0, sector(20))
		put(t, d, 1, sector(30))
		was := slices.Clone(x.keep)
		d.Crash(x.keep)
		reads(t, d, "crash", sector(x.first), sector(x.second))
		counts(t, d, "crash", 0, 6)
		if !bytes.Equal(was, x.keep) {
			t.Error("keep is another now:", x.keep)
		}
		d.Crash([]byte{1, 1, 1})
		sync(t, d)
		reads(t, d, "none is loose", sector(x.first), sector(x.second))
	}
}

// The chapter's example.
func TestExample(t *testing.T) {
	for _, at := range [][2]int{{0, 0}, {0, 1}, {1, 0}} {
		d := newDev(t, 2)
		put(t, d, at[0], sector(1))
		put(t, d, at[1], sector(2))
		d.Crash([]byte{0, 1})
		want := make([]api.Sector, 2)
		want[at[1]] = sector(2)
		reads(t, d, "example", want...)
	}
}

// P2.2: no failure behind a crash.
func TestCrashTakesTheFailure(t *testing.T) {
	for n := range 4 {
		d := newDev(t, 1)
		d.Fail(n)
		d.Crash(nil)
		for range 6 {
			put(t, d, 0, sector(n))
			sync(t, d)
		}
		counts(t, d, "behind a crash", 0, 12)
		d.Fail(1)
		put(t, d, 0, sector(n))
		if e := d.Flush(); e != api.ErrDevice {
			t.Error("a failure set behind a crash:", e)
		}
	}
}

// P2.2: what is written behind a crash is loose by itself.
func TestWritesBehindACrash(t *testing.T) {
	d := newDev(t, 2)
	put(t, d, 0, sector(1))
	put(t, d, 1, sector(2))
	d.Crash([]byte{1})
	put(t, d, 1, sector(3))
	reads(t, d, "loose again", sector(1), sector(3))
	counts(t, d, "loose again", 1, 3)
	d.Crash([]byte{0, 1})
	reads(t, d, "lost", sector(1), api.Sector{})
}

// P2.3: what was flushed, and not written since, is there behind any Crash.
func TestFlushedIsThere(t *testing.T) {
	const sectors, behind = 6, 4
	for mask := range 1 << (behind + 1) {
		d := newDev(t, sectors)
		for i := range sectors {
			put(t, d, i, sector(99))
			put(t, d, i, sector(i))
		}
		sync(t, d)
		keep := make([]byte, behind+1)
		for k := range keep {
			keep[k] = byte(mask >> k)
		}
		for k := range behind {
			put(t, d, k%2, sector(50+k))
		}
		d.Fail(mask % 2)
		d.Write(2, sector(70)) // it fails, or is the last loose one
		d.Flush()              // the other one fails
		d.Crash(keep)
		for i := 3; i < sectors; i++ {
			if s, e := d.Read(i); s != sector(i) || e != api.OK {
				t.Errorf("keep %v: sector %d: %v, %v", keep, i, s, e)
			}
		}
		if s, _ := d.Read(2); s != sector(2) && s != sector(70) {
			t.Errorf("keep %v: a sector torn: %v", keep, s)
		}
	}
}

// plain is a device that keeps all writes since the last flush, and goes through them all.
type plain struct {
	sectors []api.Sector
	at      []int
	bytes   []api.Sector
	failure int
	done    int
}

func (p *plain) goes() bool {
	p.failure--
	if p.failure == -1 {
		return false
	}
	p.done++
	return true
}

func (p *plain) settle(keep []byte) {
	for k, i := range p.at {
		if k < len(keep) && keep[k]&1 == 1 {
			p.sectors[i] = p.bytes[k]
		}
	}
	p.at, p.bytes = nil, nil
}

func (p *plain) write(i int, s api.Sector) api.Errno {
	if !p.goes() {
		return api.ErrDevice
	}
	p.at, p.bytes = append(p.at, i), append(p.bytes, s)
	return api.OK
}

func (p *plain) flush() api.Errno {
	if !p.goes() {
		return api.ErrDevice
	}
	p.settle(bytes.Repeat([]byte{1}, len(p.at)))
	return api.OK
}

func (p *plain) now() []api.Sector {
	l := slices.Clone(p.sectors)
	for k, i := range p.at {
		l[i] = p.bytes[k]
	}
	return l
}

// P2.1 to P2.3: many calls in all orders, as a plain device has them.
func TestManyCalls(t *testing.T) {
	seed := uint32(7)
	next := func(n int) int {
		seed = seed*1664525 + 1013904223
		return int(seed>>8) % n
	}
	for range 60 {
		n := 1 + next(5)
		d, p := newDev(t, n), &plain{sectors: make([]api.Sector, n), failure: -1}
		for range 80 {
			got, want := api.OK, api.OK
			switch x := next(20); {
			case x < 14:
				i, s := next(n), sector(next(256))
				got, want = d.Write(i, s), p.write(i, s)
			case x < 17:
				got, want = d.Flush(), p.flush()
			case x == 17:
				f := next(12) - 4
				d.Fail(f)
				p.failure = f
			default:
				keep := make([]byte, next(12))
				for k := range keep {
					keep[k] = byte(next(256))
				}
				d.Crash(keep)
				p.settle(keep)
				p.failure = -1
			}
			if got != want {
				t.Fatalf("%v, not %v", got, want)
			}
			reads(t, d, "many", p.now()...)
			counts(t, d, "many", len(p.at), p.done)
		}
	}
}
