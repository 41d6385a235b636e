package clock_test

import (
	"fmt"
	"math"
	"slices"
	"strings"
	"testing"

	"silt/api"
	"silt/clock"
)

func list(l ...int) []int { return l }

// far are numbers that no number of frames, and no frame, may be, though their lowest bits may.
func far() []int {
	return list(-1, -2, -16, -17, -1<<8+1, -1<<32, -1<<32+1, 17, 18, 32, 64, 1<<8, 1<<8+1, 1<<16+1, 1<<31, 1<<32, 1<<32+1, 1<<62,
		math.MinInt, math.MinInt+1, math.MinInt32, math.MaxInt32, math.MaxUint32, math.MaxInt-1, math.MaxInt)
}

// empty is a clock of n frames without keys.
func empty(t *testing.T, n int) *clock.Clock {
	t.Helper()
	c, e := clock.New(n)
	if c == nil || e != api.OK {
		t.Fatalf("New %d: %v, %d", n, c, e)
	}
	return c
}

// keyOf is the key that full puts into a frame.
func keyOf(frame int) int { return 100 + frame }

// full is a clock of n frames that all have keys, and marks, the hand at the first one.
func full(t *testing.T, n int) *clock.Clock {
	t.Helper()
	c := empty(t, n)
	for i := range n {
		puts(t, c, i, keyOf(i), true)
	}
	return c
}

// bare is a clock of n frames that all have keys, and no marks, with the hand at a frame.
func bare(t *testing.T, n, hand int) *clock.Clock {
	t.Helper()
	c := full(t, n)
	victims(t, c, 0)
	for i := 1; i < n+hand; i++ {
		victims(t, c, i%n)
	}
	return c
}

func puts(t *testing.T, c *clock.Clock, frame, key int, want bool) {
	t.Helper()
	if ok := c.Put(frame, key); ok != want {
		t.Errorf("Put %d, %d: %v", frame, key, ok)
	}
}

func drops(t *testing.T, c *clock.Clock, frame int, want bool) {
	t.Helper()
	if ok := c.Drop(frame); ok != want {
		t.Errorf("Drop %d: %v", frame, ok)
	}
}

func pins(t *testing.T, c *clock.Clock, frame int, want bool) {
	t.Helper()
	if ok := c.Pin(frame); ok != want {
		t.Errorf("Pin %d: %v", frame, ok)
	}
}

func unpins(t *testing.T, c *clock.Clock, frame int, want bool) {
	t.Helper()
	if ok := c.Unpin(frame); ok != want {
		t.Errorf("Unpin %d: %v", frame, ok)
	}
}

// finds holds in which frame a key is.
func finds(t *testing.T, c *clock.Clock, key, want int) {
	t.Helper()
	if i, ok := c.Find(key); i != want || !ok {
		t.Errorf("Find %d: %d, %v, not %d", key, i, ok, want)
	}
}

// findsNot holds that a key is in no frame.
func findsNot(t *testing.T, c *clock.Clock, keys ...int) {
	t.Helper()
	for _, key := range keys {
		if i, ok := c.Find(key); i != 0 || ok {
			t.Errorf("Find %d: %d, %v", key, i, ok)
		}
	}
}

// victims holds what Victim tells, again and again.
func victims(t *testing.T, c *clock.Clock, want ...int) {
	t.Helper()
	for k, frame := range want {
		if i, ok := c.Victim(); i != frame || !ok {
			t.Errorf("Victim, %d of %v: %d, %v", k, want, i, ok)
		}
	}
}

// victimless holds that Victim tells of none.
func victimless(t *testing.T, c *clock.Clock) {
	t.Helper()
	if i, ok := c.Victim(); i != 0 || ok {
		t.Errorf("Victim: %d, %v", i, ok)
	}
}

// text is what is to be seen of each of n frames: its key, and how often it is pinned; and how many are pinned.
func text(c *clock.Clock, n int) string {
	var l []string
	for i := range n {
		s := "-"
		if key, ok := c.Key(i); ok {
			s = fmt.Sprint(key)
		}
		if k := c.Pins(i); k != 0 {
			s += fmt.Sprintf("*%d", k)
		}
		l = append(l, s)
	}
	return strings.Join(l, " ") + fmt.Sprintf(" (%d)", c.Pinned())
}

// stands holds what is to be seen of n frames.
func stands(t *testing.T, c *clock.Clock, n int, want string) {
	t.Helper()
	if got := text(c, n); got != want {
		t.Errorf("%s, not %s", got, want)
	}
}

// P16.1: New takes 1 to MaxFrames.
func TestNew(t *testing.T) {
	for n := 1; n <= api.MaxFrames; n++ {
		c := empty(t, n)
		stands(t, c, n, strings.Repeat("- ", n)+"(0)")
		victims(t, c, 0, 0, 0)
		findsNot(t, c, 0, -1, 1, n, math.MaxInt)
		for i := range n {
			victims(t, c, i)
			puts(t, c, i, keyOf(i), true)
			finds(t, c, keyOf(i), i)
		}
		puts(t, c, n, keyOf(n), false)
		// All have marks, so the first victim is where the hand is.
		victims(t, c, 0)
	}
}

// P16.1: New takes nothing else.
func TestNewOfNone(t *testing.T) {
	for _, n := range append(far(), 0) {
		if c, e := clock.New(n); c != nil || e != api.ErrArg {
			t.Errorf("New %d: %v, %d", n, c, e)
		}
	}
}

// P16.1: of nil 0 and false, and nothing is done.
func TestNil(t *testing.T) {
	var c *clock.Clock
	for _, x := range append(far(), 0, 1, 2, 15, 16) {
		findsNot(t, c, x)
		if key, ok := c.Key(x); key != 0 || ok {
			t.Errorf("Key %d of nil: %d, %v", x, key, ok)
		}
		for _, key := range list(-1, 0, 1, x) {
			puts(t, c, x, key, false)
		}
		drops(t, c, x, false)
		c.Touch(x)
		pins(t, c, x, false)
		unpins(t, c, x, false)
		if n := c.Pins(x); n != 0 {
			t.Errorf("Pins %d of nil: %d", x, n)
		}
		if n := c.Pinned(); n != 0 {
			t.Errorf("Pinned of nil: %d", n)
		}
		victimless(t, c)
	}
}

// P16.1: frames that there are not have nothing, and nothing is done to them.
func TestNoSuchFrame(t *testing.T) {
	for n := 1; n <= api.MaxFrames; n++ {
		c := bare(t, n, n/2)
		pins(t, c, n-1, true)
		was := text(c, n)
		for _, x := range append(far(), n, n+1) {
			if key, ok := c.Key(x); key != 0 || ok {
				t.Errorf("Key %d of %d: %d, %v", x, n, key, ok)
			}
			puts(t, c, x, 7, false)
			puts(t, c, x, keyOf(0), false)
			puts(t, c, x, -1, false)
			drops(t, c, x, false)
			c.Touch(x)
			pins(t, c, x, false)
			unpins(t, c, x, false)
			if k := c.Pins(x); k != 0 {
				t.Errorf("Pins %d of %d: %d", x, n, k)
			}
		}
		findsNot(t, c, 7)
		stands(t, c, n, was)
		unpins(t, c, n-1, true)
		// No mark came to any of them, and the hand is where it was.
		for i := range 2 * n {
			victims(t, c, (n/2+i)%n)
		}
	}
}

// P16.1: the frame of each key, whatever was in it before.
func TestFind(t *testing.T) {
	c := empty(t, 3)
	puts(t, c, 1, 0, true)
	finds(t, c, 0, 1)
	findsNot(t, c, 1, 2, -1, math.MinInt, math.MaxInt)
	puts(t, c, 0, math.MaxInt, true)
	puts(t, c, 2, 1<<32, true)
	finds(t, c, math.MaxInt, 0)
	finds(t, c, 0, 1)
	finds(t, c, 1<<32, 2)
	findsNot(t, c, -1, math.MaxInt-1, math.MaxInt32, math.MinInt, 1<<33, 1)
	// Put over, and dropped, it is nowhere; put elsewhere, it is there.
	puts(t, c, 1, 5, true)
	findsNot(t, c, 0)
	finds(t, c, 5, 1)
	drops(t, c, 2, true)
	findsNot(t, c, 1<<32, 0)
	puts(t, c, 2, 0, true)
	finds(t, c, 0, 2)
	drops(t, c, 2, true)
	findsNot(t, c, 0)
	pins(t, c, 1, true)
	c.Touch(1)
	finds(t, c, 5, 1)
	for range 7 {
		c.Victim()
	}
	finds(t, c, 5, 1)
	finds(t, c, math.MaxInt, 0)
}

// P16.1: a frame's key; false of one that has none, be it new or dropped.
func TestKey(t *testing.T) {
	c := empty(t, 2)
	for range 2 {
		if key, ok := c.Key(0); key != 0 || ok {
			t.Errorf("Key of none: %d, %v", key, ok)
		}
		for _, want := range list(9, 0, math.MaxInt, 1<<32, 64+7) {
			puts(t, c, 0, want, true)
			if key, ok := c.Key(0); key != want || !ok {
				t.Errorf("Key: %d, %v, not %d", key, ok, want)
			}
		}
		drops(t, c, 0, true)
	}
	stands(t, c, 2, "- - (0)")
}

// P16.1: what Put takes, and that else nothing is done.
func TestPut(t *testing.T) {
	c := empty(t, 3)
	for _, key := range list(-1, -2, -64, -1<<32, -1<<32+5, math.MinInt32, math.MinInt) {
		puts(t, c, 0, key, false)
		findsNot(t, c, key)
	}
	stands(t, c, 3, "- - - (0)")
	puts(t, c, 1, 7, true)
	puts(t, c, 0, 7, false)
	puts(t, c, 2, 7, false)
	stands(t, c, 3, "- 7 - (0)")
	puts(t, c, 1, 7, true)
	puts(t, c, 2, 8, true)
	puts(t, c, 1, 8, false)
	puts(t, c, 2, 7, false)
	stands(t, c, 3, "- 7 8 (0)")
	puts(t, c, 1, -1, false)
	puts(t, c, 1, 0, true)
	puts(t, c, 2, 0, false)
	puts(t, c, 2, 7, true)
	puts(t, c, 1, 8, true)
	puts(t, c, 0, 0, true)
	stands(t, c, 3, "0 8 7 (0)")
}

// P16.1: nothing is put into a pinned frame, its own key neither; and a key in a pinned one is in another frame, too.
func TestPutPinned(t *testing.T) {
	c := full(t, 3)
	pins(t, c, 1, true)
	for _, key := range list(7, keyOf(1), keyOf(0), 0, -1) {
		puts(t, c, 1, key, false)
		stands(t, c, 3, "100 101*1 102 (1)")
	}
	puts(t, c, 0, keyOf(1), false)
	puts(t, c, 2, keyOf(1), false)
	pins(t, c, 1, true)
	unpins(t, c, 1, true)
	puts(t, c, 1, 7, false)
	unpins(t, c, 1, true)
	puts(t, c, 1, 7, true)
	stands(t, c, 3, "100 7 102 (0)")
	// A Put that is not taken marks nothing.
	c = bare(t, 3, 0)
	pins(t, c, 0, true)
	puts(t, c, 0, keyOf(0), false)
	puts(t, c, 0, 7, false)
	unpins(t, c, 0, true)
	puts(t, c, 1, keyOf(0), false)
	puts(t, c, 1, -1, false)
	victims(t, c, 0, 1, 2)
}

// P16.1: a key that is put is marked: over none, over another, over itself.
func TestPutMarks(t *testing.T) {
	for _, key := range list(keyOf(0), 7) {
		c := bare(t, 3, 0)
		puts(t, c, 0, key, true)
		victims(t, c, 1, 2, 0)
		c = bare(t, 3, 0)
		puts(t, c, 2, key+2, true)
		puts(t, c, 0, key, true)
		victims(t, c, 1, 0, 1, 2)
	}
	c := bare(t, 3, 0)
	drops(t, c, 0, true)
	puts(t, c, 0, 7, true)
	victims(t, c, 1, 2, 0)
	// The hand stays where it is, whatever is put ahead of it.
	c = bare(t, 3, 2)
	puts(t, c, 0, 7, true)
	puts(t, c, 1, 8, true)
	victims(t, c, 2, 2, 0, 1)
}

// P16.1: a frame that was dropped has no key and no mark; one that is pinned stays as it is.
func TestDrop(t *testing.T) {
	c := full(t, 3)
	drops(t, c, 1, true)
	stands(t, c, 3, "100 - 102 (0)")
	findsNot(t, c, keyOf(1))
	drops(t, c, 1, true)
	stands(t, c, 3, "100 - 102 (0)")
	victims(t, c, 1, 1)
	puts(t, c, 0, keyOf(1), true)
	pins(t, c, 2, true)
	pins(t, c, 2, true)
	drops(t, c, 2, false)
	unpins(t, c, 2, true)
	drops(t, c, 2, false)
	stands(t, c, 3, "101 - 102*1 (1)")
	finds(t, c, keyOf(2), 2)
	unpins(t, c, 2, true)
	drops(t, c, 2, true)
	drops(t, c, 0, true)
	stands(t, c, 3, "- - - (0)")
	findsNot(t, c, keyOf(0), keyOf(1), keyOf(2), 0)
	// All of a new clock's frames may be dropped, and the hand stays.
	for n := 1; n <= api.MaxFrames; n++ {
		c := empty(t, n)
		for i := range n {
			drops(t, c, i, true)
		}
		stands(t, c, n, strings.Repeat("- ", n)+"(0)")
	}
	c = bare(t, 3, 2)
	drops(t, c, 2, true)
	victims(t, c, 2)
	puts(t, c, 2, 7, true)
	victims(t, c, 0, 1, 2)
}

// P16.1: Touch marks a frame with a key, and of one without there is no mark behind it.
func TestTouch(t *testing.T) {
	c := bare(t, 4, 0)
	c.Touch(0)
	c.Touch(2)
	c.Touch(2)
	victims(t, c, 1, 3, 0, 1, 2, 3)
	c.Touch(1)
	c.Touch(1)
	c.Touch(0)
	stands(t, c, 4, "100 101 102 103 (0)")
	victims(t, c, 2, 3, 0, 1, 2)
	// One without a key.
	drops(t, c, 1, true)
	c.Touch(1)
	stands(t, c, 4, "100 - 102 103 (0)")
	findsNot(t, c, 0, keyOf(1))
	pins(t, c, 1, false)
	victims(t, c, 1, 1)
	puts(t, c, 1, 7, true)
	victims(t, c, 3, 0, 2, 3, 0, 1)
	// A pinned one has its mark when it is pinned no longer.
	c = bare(t, 3, 0)
	pins(t, c, 0, true)
	c.Touch(0)
	victims(t, c, 1, 2, 1)
	unpins(t, c, 0, true)
	victims(t, c, 2, 1, 2, 0)
}

// P16.1: pins are counted, of a frame with a key.
func TestPins(t *testing.T) {
	c := full(t, 3)
	drops(t, c, 1, true)
	pins(t, c, 1, false)
	unpins(t, c, 1, false)
	stands(t, c, 3, "100 - 102 (0)")
	unpins(t, c, 0, false)
	stands(t, c, 3, "100 - 102 (0)")
	pins(t, c, 0, true)
	stands(t, c, 3, "100*1 - 102 (1)")
	pins(t, c, 0, true)
	pins(t, c, 2, true)
	pins(t, c, 0, true)
	stands(t, c, 3, "100*3 - 102*1 (2)")
	unpins(t, c, 2, true)
	unpins(t, c, 2, false)
	stands(t, c, 3, "100*3 - 102 (1)")
	for k := 3; k > 0; k-- {
		if n := c.Pins(0); n != k {
			t.Errorf("Pins: %d, not %d", n, k)
		}
		unpins(t, c, 0, true)
	}
	unpins(t, c, 0, false)
	stands(t, c, 3, "100 - 102 (0)")
	pins(t, c, 0, true)
	stands(t, c, 3, "100*1 - 102 (1)")
	// No pin stays behind in a frame that has another key.
	unpins(t, c, 0, true)
	puts(t, c, 0, 7, true)
	unpins(t, c, 0, false)
	stands(t, c, 3, "7 - 102 (0)")
}

// P16.1: there is no end to how often a frame is pinned.
func TestManyPins(t *testing.T) {
	const many = 1<<16 + 3
	c := full(t, 2)
	for k := range many {
		pins(t, c, 1, true)
		if n := c.Pins(1); n != k+1 || c.Pins(0) != 0 || c.Pinned() != 1 {
			t.Fatalf("Pins: %d, %d, Pinned: %d", n, c.Pins(0), c.Pinned())
		}
	}
	for range many {
		unpins(t, c, 1, true)
	}
	unpins(t, c, 1, false)
	stands(t, c, 2, "100 101 (0)")
}

// P16.1: all frames may be pinned.
func TestAllPinned(t *testing.T) {
	for n := 1; n <= api.MaxFrames; n++ {
		c := full(t, n)
		for i := range n {
			pins(t, c, i, true)
			if k := c.Pinned(); k != i+1 {
				t.Errorf("%d of %d: Pinned %d", i+1, n, k)
			}
		}
		for i := range n {
			unpins(t, c, i, true)
			if k := c.Pinned(); k != n-1-i {
				t.Errorf("%d of %d: Pinned %d", n-1-i, n, k)
			}
		}
	}
}

// P16.1: Pin and Unpin mark nothing, and take no mark.
func TestPinsMarkNothing(t *testing.T) {
	c := bare(t, 3, 0)
	pins(t, c, 0, true)
	unpins(t, c, 0, true)
	victims(t, c, 0, 1, 2)
	c.Touch(0)
	pins(t, c, 0, true)
	unpins(t, c, 0, true)
	victims(t, c, 1, 2, 0)
}

// P16.2: the chapter's example.
func TestExample(t *testing.T) {
	victims(t, empty(t, 2), 0)
}

// P16.2: the first frame without a key, wherever the hand is, and the hand and the marks stay.
func TestVictimWithoutKey(t *testing.T) {
	for n := 1; n <= 6; n++ {
		for hand := range n {
			for at := range n {
				c := bare(t, n, hand)
				for i := at; i < n; i += 2 {
					drops(t, c, i, true)
				}
				victims(t, c, at, at, at)
				for i := at; i < n; i += 2 {
					victims(t, c, i)
					puts(t, c, i, 7+i, true)
				}
				// All are marked anew, so that the hand tells where it is.
				for i := range n {
					c.Touch(i)
				}
				victims(t, c, hand)
			}
		}
	}
}

// P16.2: one without a key is told of, though others are pinned, or have no mark.
func TestVictimWithoutKeyAmongOthers(t *testing.T) {
	c := bare(t, 4, 1)
	c.Touch(0)
	pins(t, c, 2, true)
	drops(t, c, 3, true)
	victims(t, c, 3, 3, 3)
	puts(t, c, 3, 7, true)
	victims(t, c, 1, 1, 3, 0)
	for i := range 3 {
		c.Touch(i)
		if i != 2 {
			pins(t, c, i, true)
		}
	}
	drops(t, c, 3, true)
	victims(t, c, 3, 3)
	stands(t, c, 4, "100*1 101*1 102*1 - (3)")
}

// P16.2: are all marked, all marks go, then it is the one at which the hand was; from then on one behind the other.
func TestVictimAllMarked(t *testing.T) {
	for n := 1; n <= api.MaxFrames; n++ {
		for hand := range n {
			c := bare(t, n, hand)
			for i := range n {
				c.Touch(i)
			}
			for i := range 3*n + 1 {
				victims(t, c, (hand+i)%n)
			}
		}
	}
}

// P16.2: the first one from the hand on that is not marked, and those on the way are marked no longer.
func TestVictimSomeMarked(t *testing.T) {
	for _, x := range []struct {
		name string
		hand int
		mark []int
		want []int
	}{
		{"none", 0, nil, list(0, 1, 2, 3, 0)},
		{"none", 3, nil, list(3, 0, 1, 2, 3)},
		{"the hand's", 0, list(0), list(1, 2, 3, 0, 1)},
		{"the hand's, the last", 3, list(3), list(0, 1, 2, 3, 0)},
		{"another", 1, list(3), list(1, 2, 0, 1, 2, 3)},
		{"those ahead of the hand", 2, list(0, 1), list(2, 3, 2, 3, 0, 1)},
		{"those from the hand on", 2, list(2, 3), list(0, 1, 2, 3)},
		{"all but one", 1, list(0, 1, 2), list(3, 1, 2, 3, 0)},
		{"all but the one ahead of the hand", 1, list(1, 2, 3), list(0, 1, 2, 3)},
		{"all but the hand's", 2, list(0, 1, 3), list(2, 2, 3, 0, 1, 2)},
	} {
		t.Run(x.name, func(t *testing.T) {
			c := bare(t, 4, x.hand)
			for _, i := range x.mark {
				c.Touch(i)
			}
			victims(t, c, x.want...)
			stands(t, c, 4, "100 101 102 103 (0)")
		})
	}
}

// P16.2: pinned ones are passed over, with their marks.
func TestVictimSomePinned(t *testing.T) {
	c := bare(t, 4, 0)
	pins(t, c, 0, true)
	victims(t, c, 1, 2, 3, 1, 2, 3, 1)
	pins(t, c, 2, true)
	victims(t, c, 3, 1, 3, 1)
	c.Touch(1)
	c.Touch(2)
	// The hand is at 2; it takes the mark of 1 on the way round to 3.
	victims(t, c, 3, 3, 1)
	unpins(t, c, 0, true)
	unpins(t, c, 2, true)
	// 2 has its mark, which the hand did not take while it was pinned; it goes now.
	victims(t, c, 3, 0, 1, 2, 3)
}

// P16.2: one that is not pinned among pinned ones, marked or not, wherever it is, and wherever the hand is.
func TestVictimOnlyOne(t *testing.T) {
	for n := 1; n <= api.MaxFrames; n++ {
		for hand := range n {
			for at := range n {
				c := bare(t, n, hand)
				for i := range n {
					if i != at {
						pins(t, c, i, true)
					}
				}
				victims(t, c, at, at)
				c.Touch(at)
				victims(t, c, at)
				puts(t, c, at, 7, true)
				victims(t, c, at, at)
				if key, ok := c.Key(at); key != 7 || !ok || c.Pins(at) != 0 || c.Pinned() != n-1 {
					t.Errorf("%d of %d: %s", at, n, text(c, n))
				}
				for i := range n {
					if i != at {
						unpins(t, c, i, true)
					}
				}
				// The hand is behind it, and no pinned one was marked on the way.
				for i := range n {
					victims(t, c, (at+1+i)%n)
				}
			}
		}
	}
}

// P16.2: are all pinned, there is none, and hand and marks are as they were.
func TestVictimAllPinned(t *testing.T) {
	for n := 1; n <= 6; n++ {
		for hand := range n {
			for marks := range 1 << n {
				c, likewise := bare(t, n, hand), bare(t, n, hand)
				for i := range n {
					if marks>>i&1 == 1 {
						c.Touch(i)
						likewise.Touch(i)
					}
					pins(t, c, i, true)
				}
				was := text(c, n)
				victimless(t, c)
				victimless(t, c)
				stands(t, c, n, was)
				for i := range n {
					unpins(t, c, i, true)
				}
				for range 3 * n {
					want, _ := likewise.Victim()
					victims(t, c, want)
				}
			}
		}
	}
}

// P16.2: the victim keeps its key, and put anew it is marked, with the hand behind it.
func TestVictimKeepsItsKey(t *testing.T) {
	c := full(t, 3)
	victims(t, c, 0)
	stands(t, c, 3, "100 101 102 (0)")
	finds(t, c, keyOf(0), 0)
	puts(t, c, 0, 7, true)
	victims(t, c, 1)
	puts(t, c, 1, 8, true)
	victims(t, c, 2)
	// Left as it is, it is the first one without a mark.
	victims(t, c, 2)
	puts(t, c, 2, 9, true)
	victims(t, c, 0)
	stands(t, c, 3, "7 8 9 (0)")
	drops(t, c, 1, true)
	victims(t, c, 1, 1)
	puts(t, c, 1, 8, true)
	victims(t, c, 0)
}

// Rule 4: a clock is apart from all others, and what was done to them.
func TestApart(t *testing.T) {
	a, b := full(t, 3), full(t, 3)
	pins(t, a, 0, true)
	victims(t, a, 1, 2)
	drops(t, a, 2, true)
	puts(t, a, 1, 7, true)
	stands(t, b, 3, "100 101 102 (0)")
	findsNot(t, b, 7)
	victims(t, b, 0, 1, 2)
	stands(t, a, 3, "100*1 7 - (1)")
	for range 3 {
		victims(t, bare(t, 5, 3), 3, 4, 0)
		stands(t, empty(t, 2), 2, "- - (0)")
	}
}

// call is one of a play.
type call struct {
	name       string
	frame, key int
}

// answer is what it told, and nothing else.
type answer struct {
	n  int
	ok bool
}

// ask asks a clock.
func (x call) ask(c *clock.Clock) (a answer) {
	switch x.name {
	case "Find":
		a.n, a.ok = c.Find(x.key)
	case "Key":
		a.n, a.ok = c.Key(x.frame)
	case "Victim":
		a.n, a.ok = c.Victim()
	case "Put":
		a.ok = c.Put(x.frame, x.key)
	case "Drop":
		a.ok = c.Drop(x.frame)
	case "Touch":
		c.Touch(x.frame)
	case "Pin":
		a.ok = c.Pin(x.frame)
	case "Unpin":
		a.ok = c.Unpin(x.frame)
	case "Pins":
		a.n = c.Pins(x.frame)
	case "Pinned":
		a.n = c.Pinned()
	}
	return a
}

// second is a second clock, by what the chapter says: keys by frame (-1: none), and which frames are marked, and pinned.
type second struct {
	keys   [api.MaxFrames]int
	marked [api.MaxFrames]bool
	pins   [api.MaxFrames]int
	n      int
	hand   int
}

func secondOf(n int) second {
	s := second{n: n}
	for i := range s.keys {
		s.keys[i] = -1
	}
	return s
}

// in is in which frame a key is; -1: in none.
func (s *second) in(key int) int {
	if key < 0 {
		return -1
	}
	return slices.Index(s.keys[:s.n], key)
}

// ask asks the second clock.
func (s *second) ask(x call) (a answer) {
	there := x.frame >= 0 && x.frame < s.n
	keyed := there && s.keys[x.frame] >= 0
	switch x.name {
	case "Find":
		if i := s.in(x.key); i >= 0 {
			return answer{i, true}
		}
	case "Key":
		if keyed {
			return answer{s.keys[x.frame], true}
		}
	case "Victim":
		return s.victim()
	case "Put":
		if there && s.pins[x.frame] == 0 && x.key >= 0 && (s.in(x.key) == -1 || s.in(x.key) == x.frame) {
			s.keys[x.frame], s.marked[x.frame] = x.key, true
			return answer{0, true}
		}
	case "Drop":
		if there && s.pins[x.frame] == 0 {
			s.keys[x.frame], s.marked[x.frame] = -1, false
			return answer{0, true}
		}
	case "Touch":
		if keyed {
			s.marked[x.frame] = true
		}
	case "Pin":
		if keyed {
			s.pins[x.frame]++
			return answer{0, true}
		}
	case "Unpin":
		if there && s.pins[x.frame] > 0 {
			s.pins[x.frame]--
			return answer{0, true}
		}
	case "Pins":
		if there {
			return answer{s.pins[x.frame], false}
		}
	case "Pinned":
		for _, k := range s.pins {
			a.n += min(k, 1)
		}
	}
	return a
}

func (s *second) victim() answer {
	if i := slices.Index(s.keys[:s.n], -1); i >= 0 {
		return answer{i, true}
	}
	for step := 0; step < 2*s.n; step++ {
		i := s.hand
		s.hand++
		if s.hand == s.n {
			s.hand = 0
		}
		if s.pins[i] > 0 {
			continue
		}
		if !s.marked[i] {
			return answer{i, true}
		}
		s.marked[i] = false
	}
	return answer{}
}

// play is a clock and the second one, through the same calls.
type play struct {
	t    *testing.T
	c    *clock.Clock
	s    second
	said []call
}

func playOf(t *testing.T, n int) *play {
	t.Helper()
	return &play{t: t, c: empty(t, n), s: secondOf(n)}
}

// does holds the answer of one call more, and that a victim is what P16.3 says.
func (p *play) does(x call) {
	p.t.Helper()
	pinned := p.c.Pinned()
	p.said = append(p.said, x)
	want := p.s.ask(x)
	got := x.ask(p.c)
	if got != want {
		p.t.Fatalf("of %d frames: %v: %v, not %v", p.s.n, p.said, got, want)
	}
	if x.name == "Victim" && (got.ok && p.c.Pins(got.n) != 0 || got.ok == (pinned == p.s.n)) {
		p.t.Fatalf("of %d frames, %d of them pinned: %v: %v", p.s.n, pinned, p.said, got)
	}
}

// seen holds all that is to be seen.
func (p *play) seen(keys []int) {
	p.t.Helper()
	said := len(p.said)
	p.does(call{name: "Pinned"})
	for frame := -1; frame <= p.s.n; frame++ {
		p.does(call{name: "Key", frame: frame})
		p.does(call{name: "Pins", frame: frame})
	}
	for _, key := range keys {
		p.does(call{name: "Find", key: key})
	}
	p.said = p.said[:said]
}

// ends holds what is not to be seen, the marks and the hand: all is unpinned, filled, and asked for victims, round and round.
func (p *play) ends() {
	p.t.Helper()
	for frame := range p.s.n {
		for p.s.pins[frame] > 0 {
			p.does(call{name: "Unpin", frame: frame})
		}
		if p.s.keys[frame] < 0 {
			p.does(call{name: "Put", frame: frame, key: 1000 + frame})
		}
	}
	for range 3*p.s.n + 1 {
		p.does(call{name: "Victim"})
	}
}

// calls are all that change a clock of n frames, frames and keys that may not be among them.
func calls(n int, keys []int) []call {
	l := []call{{name: "Victim"}}
	for frame := -1; frame <= n; frame++ {
		for _, key := range keys {
			l = append(l, call{"Put", frame, key})
		}
		for _, name := range []string{"Drop", "Touch", "Pin", "Unpin"} {
			l = append(l, call{name: name, frame: frame})
		}
	}
	return l
}

// small tells whether a state is one from which to go on: no frame is pinned more than twice.
func (s *second) small() bool {
	return slices.Max(s.pins[:]) <= 2
}

// P16.1 to P16.3: from each state to which calls lead, each call.
func TestEachState(t *testing.T) {
	keys := list(-1, 0, 1, 2)
	for n := 1; n <= 2; n++ {
		all := calls(n, keys)
		ways := map[second][]call{secondOf(n): nil}
		next := []second{secondOf(n)}
		for len(next) > 0 {
			from := next[0]
			next = next[1:]
			for _, x := range all {
				p := playOf(t, n)
				for _, y := range ways[from] {
					p.does(y)
				}
				p.does(x)
				p.seen(keys)
				to := p.s
				if _, ok := ways[to]; !ok && to.small() {
					ways[to] = slices.Clone(p.said)
					next = append(next, to)
				}
				p.ends()
			}
		}
		// Of one frame: no key, or one of three, marked or not, pinned 0 to 2 times. Of two, two such ones with unlike keys, and the hand at either.
		if want := list(0, 19, 2*(1+2*18+3*2*6*6))[n]; len(ways) != want {
			t.Errorf("%d states of %d frames, not %d", len(ways), n, want)
		}
	}
}

// P16.2, P16.3: all that frames with keys may be, with the hand at each of them: all victims, till they come round.
func TestVictimsOfEachState(t *testing.T) {
	for n := 1; n <= 5; n++ {
		for hand := range n {
			for bits := range 1 << (2 * n) {
				p := playOf(t, n)
				for i := range n {
					p.does(call{"Put", i, keyOf(i)})
				}
				for range n + hand {
					p.does(call{name: "Victim"})
				}
				for i := range n {
					if bits>>(2*i)&1 == 1 {
						p.does(call{name: "Touch", frame: i})
					}
					if bits>>(2*i)&2 == 2 {
						p.does(call{name: "Pin", frame: i})
					}
				}
				for range 2*n + 1 {
					p.does(call{name: "Victim"})
				}
				p.ends()
			}
		}
	}
}

// P16.1 to P16.3: long plays of clocks of each size, by a rule that goes through many numbers.
func TestLongPlays(t *testing.T) {
	for n := 1; n <= api.MaxFrames; n++ {
		for turn := range 6 {
			number := uint32(1 + 977*turn + n)
			under := func(k int) int {
				number = number*1664525 + 1013904223
				return int(number>>8) % k
			}
			p := playOf(t, n)
			keys := list(-1, math.MinInt, math.MaxInt)
			for key := range n + 3 {
				keys = append(keys, key)
			}
			// The first turns pin seldom, the last ones often, till nearly all frames are pinned.
			names := append([]string{"Victim", "Victim", "Put", "Put", "Touch", "Unpin"}, slices.Repeat([]string{"Pin"}, turn)...)
			names = append(names, "Touch", "Drop")
			for range 400 {
				p.does(call{names[under(len(names))], under(n+2) - 1, keys[under(len(keys))]})
				if under(10) == 0 {
					p.seen(keys)
				}
			}
			p.seen(keys)
			p.ends()
		}
	}
}

// P16.1 to P16.3: what a cache does: a key that is not there goes into the victim, one that is there is touched, some are pinned for a while.
func TestAsACache(t *testing.T) {
	for n := 1; n <= api.MaxFrames; n++ {
		p := playOf(t, n)
		var held []int
		for k := range 60 * n {
			key := (k*k + k/7) % (2*n + 1)
			at, ok := p.c.Find(key)
			if ok {
				p.does(call{name: "Touch", frame: at})
			} else if at, ok = p.c.Victim(); ok != (p.s.ask(call{name: "Victim"}) == answer{at, true}) {
				t.Fatalf("of %d frames: %v: victim %d, %v", n, p.said, at, ok)
			} else if ok {
				p.does(call{"Put", at, key})
				finds(t, p.c, key, at)
			}
			if ok && k%3 == 0 {
				p.does(call{name: "Pin", frame: at})
				held = append(held, at)
			}
			if len(held) > n || k%5 == 0 && len(held) > 0 {
				p.does(call{name: "Unpin", frame: held[0]})
				held = held[1:]
			}
			p.said = nil
			p.seen(list(key))
		}
		p.ends()
	}
}
