package anchor_test

import (
	"math"
	"slices"
	"testing"

	"silt/anchor"
	"silt/api"
	"silt/dev"
	"silt/region"
)

func geom(pages, segs, segLen, frames int) api.Geom {
	return api.Geom{Pages: pages, Segs: segs, SegLen: segLen, Frames: frames}
}

// total is how many sectors such a geometry has; that is counted here, apart from plan.
func total(g api.Geom) int { return 4 + g.Segs*g.SegLen }

// shapes are geometries that may be, at the edges and between.
func shapes() []api.Geom {
	return []api.Geom{geom(1, 6, 24, 2), geom(64, 16, 32, 16), geom(16, 8, 24, 4), geom(40, 7, 31, 3), geom(9, 16, 25, 5)}
}

// gens are generations, small, great, and with a byte that differs, even and odd ones.
func gens() []uint32 {
	return []uint32{0, 1, 2, 3, 7, 8, 255, 256, 257, 0x01020304, 0x01020305, 1 << 16, 1<<24 + 1, 1<<31 - 2, 1<<31 - 1}
}

// made is a region of a geometry and a generation that all its other fields hang on.
func made(g api.Geom, gen uint32) api.Region {
	r := api.Region{Gen: gen, Geom: g, Seg: int(gen) % g.Segs, Off: int(gen) % (g.SegLen + 1), Seq: gen*7 + 5}
	for i := 0; 8*i < g.Pages; i++ {
		if i%3 != 2 {
			r.Roots[i] = 4 + (int(gen)%1000+11*i)%(total(g)-4)
		}
	}
	return r
}

// laid are the sectors of a region, one byte behind the other, apart from package region.
func laid(r api.Region) [2]api.Sector {
	number := func(n uint32) []byte { return []byte{byte(n), byte(n >> 8), byte(n >> 16), byte(n >> 24)} }
	one := append([]byte{0x52, 0}, number(r.Gen)...)
	one = append(one, byte(r.Pages), byte(r.Segs), byte(r.SegLen), byte(r.Frames), byte(r.Seg), byte(r.Off))
	one = append(one, number(r.Seq)...)
	two := append([]byte{0x52, 1}, number(r.Gen)...)
	for _, n := range r.Roots {
		two = append(two, byte(n), byte(n>>8))
	}
	var l [2]api.Sector
	copy(l[0][:], one)
	copy(l[1][:], two)
	return l
}

// sample is a sector that is none's.
func sample(i int) (s api.Sector) {
	for k := range s {
		s[k] = byte(200 + i + 3*k)
	}
	s[0] = 0
	return s
}

// device has n sectors that are none's, none of them loose.
func device(t *testing.T, n int) *dev.Dev {
	t.Helper()
	d, e := dev.New(n)
	if e != api.OK {
		t.Fatalf("device of %d sectors: %d", n, e)
	}
	for i := range n {
		d.Write(i, sample(i))
	}
	d.Flush()
	return d
}

// sectors are all of a device, as they are read.
func sectors(t *testing.T, d *dev.Dev) []api.Sector {
	t.Helper()
	l := make([]api.Sector, d.Len())
	for i := range l {
		s, e := d.Read(i)
		if e != api.OK {
			t.Fatalf("read of sector %d: %d", i, e)
		}
		l[i] = s
	}
	return l
}

// lay sets the sectors of region n, as far as the device goes, flushed.
func lay(d *dev.Dev, n int, l [2]api.Sector) {
	for i, s := range l {
		d.Write(2*n+i, s)
	}
	d.Flush()
}

// stands holds all sectors of a device against what is wanted.
func stands(t *testing.T, name string, d *dev.Dev, want []api.Sector) {
	t.Helper()
	for i, s := range sectors(t, d) {
		if s != want[i] {
			t.Errorf("%s: sector %d: %v, not %v", name, i, s, want[i])
		}
	}
}

// asked is what Newest tells; the device is as it was, whatever was loose or fails there.
func asked(t *testing.T, name string, d *dev.Dev) (api.Region, api.Errno) {
	t.Helper()
	was, loose, done := sectors(t, d), d.Loose(), d.Done()
	r, e := anchor.Newest(d)
	stands(t, name+", asked", d, was)
	if d.Loose() != loose || d.Done() != done {
		t.Errorf("%s: asked: %d loose and %d done, not %d and %d", name, d.Loose(), d.Done(), loose, done)
	}
	return r, e
}

func newest(t *testing.T, name string, d *dev.Dev, want api.Region) {
	t.Helper()
	if r, e := asked(t, name, d); e != api.OK || r != want {
		t.Errorf("%s: %+v, %d, not %+v", name, r, e, want)
	}
}

func corrupt(t *testing.T, name string, d *dev.Dev) {
	t.Helper()
	if r, e := asked(t, name, d); e != api.ErrCorrupt || r != (api.Region{}) {
		t.Errorf("%s: %+v, %d", name, r, e)
	}
}

// refuses holds that a Write is ErrArg, and nothing is written, nor does it meet the device's failure.
func refuses(t *testing.T, name string, d *dev.Dev, r api.Region) {
	t.Helper()
	was, loose, done := sectors(t, d), d.Loose(), d.Done()
	if e := anchor.Write(d, r); e != api.ErrArg {
		t.Errorf("%s: Write %+v: %d", name, r, e)
	}
	stands(t, name, d, was)
	if d.Loose() != loose || d.Done() != done {
		t.Errorf("%s: %d loose and %d done, not %d and %d", name, d.Loose(), d.Done(), loose, done)
	}
}

// P19.1: without a device, whatever the region is; P19.2 likewise.
func TestNoDevice(t *testing.T) {
	for _, g := range append(shapes(), api.Geom{}, geom(1, 6, 24, 1)) {
		for _, gen := range []uint32{0, 1, 6} {
			if e := anchor.Write(nil, api.Region{Gen: gen, Geom: g}); e != api.ErrArg {
				t.Errorf("Write: %d", e)
			}
		}
	}
	if r, e := anchor.Newest(nil); e != api.ErrArg || r != (api.Region{}) {
		t.Errorf("Newest: %+v, %d", r, e)
	}
}

// far are numbers that no field may have, though their lowest bytes may.
func far() []int {
	return []int{math.MinInt, math.MinInt + 24, math.MinInt32, -1<<16 + 24, -256 + 24, -24, -4, -2, -1, 1<<16 + 24, 1<<32 + 4, 1<<32 + 24, math.MaxInt32, math.MaxInt}
}

// wrong are regions that may not be, each for one reason, but for that like r.
func wrong(r api.Region) []api.Region {
	var l []api.Region
	set := func(change func(r *api.Region, n int), least, most int) {
		for _, n := range append(far(), least-1, most+1) {
			x := r
			change(&x, n)
			l = append(l, x)
		}
	}
	set(func(r *api.Region, n int) { r.Pages = n }, 1, 64)
	set(func(r *api.Region, n int) { r.Segs = n }, 6, 16)
	set(func(r *api.Region, n int) { r.SegLen = n }, 24, 32)
	set(func(r *api.Region, n int) { r.Frames = n }, 2, 16)
	set(func(r *api.Region, n int) { r.Seg = n }, 0, r.Segs-1)
	set(func(r *api.Region, n int) { r.Off = n }, 0, r.SegLen)
	for i := range r.Roots {
		set(func(r *api.Region, n int) { r.Roots[i] = n }, 4, total(r.Geom)-1)
		set(func(r *api.Region, n int) { r.Roots[i] = n }, 2, total(r.Geom))
		if 8*i >= r.Pages { // behind the mapping pages
			x := r
			x.Roots[i] = 4
			l = append(l, x)
		}
	}
	return l
}

// P19.1: regions that may not be, on a device that has sectors for each: nothing is written.
func TestWriteOfNoRegion(t *testing.T) {
	for _, g := range shapes() {
		for _, gen := range []uint32{6, 7} {
			d := device(t, 1024)
			lay(d, 1, laid(made(g, 5)))
			d.Write(9, api.Sector{1})
			d.Fail(0)
			was := sectors(t, d)
			for _, r := range append(wrong(made(g, gen)), api.Region{}, api.Region{Gen: gen}) {
				if region.Good(r) {
					t.Errorf("%+v may be", r)
				}
				if e := anchor.Write(d, r); e != api.ErrArg {
					t.Errorf("Write %+v: %d", r, e)
				}
			}
			stands(t, "no region", d, was)
			if d.Loose() != 1 || d.Done() != 1024+1+2+1+1 {
				t.Errorf("%d loose, %d done", d.Loose(), d.Done())
			}
			if e := d.Flush(); e != api.ErrDevice {
				t.Errorf("the failure was met: %d", e)
			}
		}
	}
}

// P19.1: devices with fewer sectors than the geometry's, and with one fewer; with just so many, and with more.
func TestWriteOnDevices(t *testing.T) {
	for _, g := range shapes() {
		for _, gen := range []uint32{6, 7} {
			r := made(g, gen)
			for _, n := range []int{1, 2, 3, 4, total(g) - g.SegLen, total(g) - 4, total(g) - 2, total(g) - 1} {
				d := device(t, n)
				refuses(t, "too few sectors", d, r)
				d.Write(0, api.Sector{5})
				d.Fail(0)
				refuses(t, "too few sectors, one loose", d, r)
			}
			for _, n := range []int{total(g), total(g) + 1, total(g) + 2, 1024} {
				d := device(t, n)
				if e := anchor.Write(d, r); e != api.OK {
					t.Errorf("%+v on %d sectors: %d", r, n, e)
				}
				newest(t, "enough sectors", d, r)
			}
		}
	}
}

// P19.1: the sectors written out byte by byte, of an even Gen and an odd one.
func TestSectors(t *testing.T) {
	d := device(t, 200)
	even := api.Region{Gen: 0x01020304, Geom: geom(16, 8, 24, 4), Seg: 5, Off: 6, Seq: 0x21222324, Roots: [8]int{4, 195}}
	odd := api.Region{Gen: 0x01020305, Geom: geom(9, 6, 25, 3), Seg: 2, Off: 25, Seq: 8, Roots: [8]int{0, 7}}
	for _, r := range []api.Region{even, odd} {
		if e := anchor.Write(d, r); e != api.OK {
			t.Errorf("%+v: %d", r, e)
		}
	}
	for i, want := range []api.Sector{
		{0x52, 0, 4, 3, 2, 1, 16, 8, 24, 4, 5, 6, 0x24, 0x23, 0x22, 0x21}, {0x52, 1, 4, 3, 2, 1, 4, 0, 195},
		{0x52, 0, 5, 3, 2, 1, 9, 6, 25, 3, 2, 25, 8}, {0x52, 1, 5, 3, 2, 1, 0, 0, 7},
	} {
		if s, e := d.Read(i); e != api.OK || s != want {
			t.Errorf("sector %d: %v, %d, not %v", i, s, e, want)
		}
	}
}

// P19.1: the two sectors of region Gen modulo 2 are written, all others are as they were, nothing is loose behind it; over what was there.
func TestWriteWhere(t *testing.T) {
	for _, g := range shapes() {
		for _, n := range []int{total(g), 1024} {
			d := device(t, n)
			want := sectors(t, d)
			for i, gen := range gens() {
				r := made(g, gen)
				done := d.Done()
				if e := anchor.Write(d, r); e != api.OK {
					t.Errorf("%+v: %d", r, e)
				}
				l := laid(r)
				copy(want[2*(gen%2):], l[:])
				stands(t, "written", d, want)
				if d.Loose() != 0 || d.Done() != done+3 {
					t.Errorf("Write %d: %d loose, %d done behind %d", i, d.Loose(), d.Done(), done)
				}
				d.Crash(nil)
				stands(t, "crashed", d, want)
			}
		}
	}
}

// P19.1: of a Gen that no promise of the whole has, too, the region is told by its lowest bit.
func TestWriteOfAnyGen(t *testing.T) {
	for _, gen := range []uint32{1 << 31, 1<<31 + 1, math.MaxUint32 - 1, math.MaxUint32} {
		d := device(t, 1024)
		want := sectors(t, d)
		r := made(geom(40, 7, 31, 3), gen%1000)
		r.Gen = gen
		if e := anchor.Write(d, r); e != api.OK {
			t.Errorf("Gen %d: %d", gen, e)
		}
		l := laid(r)
		copy(want[2*(gen%2):], l[:])
		stands(t, "any Gen", d, want)
		newest(t, "any Gen", d, r)
	}
}

// P19.1: each write and the flush failing: the device's error, and what stands there then: what was written ahead of it, loose, in order.
func TestWriteFails(t *testing.T) {
	for _, g := range shapes() {
		for _, gen := range []uint32{6, 7, 255, 256} {
			l := laid(made(g, gen))
			first := 2 * int(gen%2)
			for fuse := range 3 {
				for keep := range 4 {
					d := device(t, total(g))
					done := d.Done()
					d.Fail(fuse)
					if e := anchor.Write(d, made(g, gen)); e != api.ErrDevice {
						t.Errorf("Write fails at %d: %d", fuse, e)
					}
					if d.Loose() != min(fuse, 2) || d.Done() != done+fuse {
						t.Errorf("Write fails at %d: %d loose, %d done behind %d", fuse, d.Loose(), d.Done(), done)
					}
					d.Crash([]byte{byte(keep % 2), byte(keep / 2)})
					d.Crash([]byte{1, 1, 1})
					want := sectors(t, device(t, total(g)))
					for i := range 2 {
						if i < fuse && keep>>i%2 == 1 {
							want[first+i] = l[i]
						}
					}
					stands(t, "failed", d, want)
				}
			}
		}
	}
}

// P19.1: behind one that failed all of it is written by the next one, on the same device.
func TestWriteBehindFailure(t *testing.T) {
	g := geom(40, 7, 31, 3)
	for _, gen := range []uint32{6, 7} {
		for fuse := range 3 {
			d := device(t, total(g))
			want := sectors(t, d)
			d.Fail(fuse)
			anchor.Write(d, made(g, gen))
			if e := anchor.Write(d, made(g, gen+2)); e != api.OK || d.Loose() != 0 {
				t.Errorf("behind a failure at %d: %d, %d loose", fuse, e, d.Loose())
			}
			d.Crash(nil)
			l := laid(made(g, gen+2))
			copy(want[2*(gen%2):], l[:])
			stands(t, "behind a failure", d, want)
		}
	}
}

// P19.1: what was loose ahead of a Write is flushed with it, in order: what it writes lies over that.
func TestWriteBehindLoose(t *testing.T) {
	g := geom(16, 8, 24, 4)
	for _, gen := range []uint32{6, 7} {
		d := device(t, total(g))
		want := sectors(t, d)
		for _, i := range []int{0, 1, 2, 3, 9, 195} {
			d.Write(i, sample(i+50))
			want[i] = sample(i + 50)
		}
		if e := anchor.Write(d, made(g, gen)); e != api.OK || d.Loose() != 0 {
			t.Errorf("Write: %d, %d loose", e, d.Loose())
		}
		l := laid(made(g, gen))
		copy(want[2*(gen%2):], l[:])
		d.Crash(nil)
		stands(t, "behind loose ones", d, want)
	}
}

// P19.2: the chapter's example, a new device; and one of sectors that are none's.
func TestNewDevice(t *testing.T) {
	for _, n := range []int{1, 2, 3, 4, 5, 147, 148, 149, 516, 1024} {
		d, _ := dev.New(n)
		corrupt(t, "new", d)
		corrupt(t, "of any bytes", device(t, n))
	}
}

// P19.2: devices with no sectors, with some of the regions' alone, and with all of these but too few for any geometry.
func TestFewSectors(t *testing.T) {
	corrupt(t, "no sectors", new(dev.Dev))
	for n := 1; n <= 10; n++ {
		for _, g := range shapes() {
			d := device(t, n)
			for which, gen := range []uint32{6, 7} {
				lay(d, which, laid(made(g, gen)))
				corrupt(t, "few sectors", d)
			}
		}
	}
}

// P19.2: one region alone: told in its own place, whatever the other one's sectors are, and not in the other one's.
func TestOneAlone(t *testing.T) {
	for _, g := range shapes() {
		for _, gen := range gens() {
			r := made(g, gen)
			own := int(gen % 2)
			for _, other := range [][2]api.Sector{{}, {sample(1), sample(2)}, laid(r), laid(made(g, gen+2))} {
				d := device(t, total(g))
				lay(d, 1-own, other)
				corrupt(t, "the other one's place", d)
				lay(d, own, laid(r))
				newest(t, "its own place", d, r)
				lay(d, own, [2]api.Sector{})
				corrupt(t, "gone", d)
			}
		}
	}
}

// P19.2: both, the greater Gen in either place.
func TestBoth(t *testing.T) {
	for _, g := range shapes() {
		for _, a := range gens() {
			for _, b := range gens() {
				if a%2 == 1 || b%2 == 0 {
					continue
				}
				d := device(t, total(g))
				lay(d, 0, laid(made(g, a)))
				lay(d, 1, laid(made(g, b)))
				newest(t, "both", d, made(g, max(a, b)))
				d = device(t, 1024)
				lay(d, 1, laid(made(g, b)))
				lay(d, 0, laid(made(g, a)))
				newest(t, "both", d, made(g, max(a, b)))
				lay(d, 0, laid(made(g, b)))
				lay(d, 1, laid(made(g, a)))
				corrupt(t, "both in the other one's place", d)
			}
		}
	}
}

// P19.2: in both places regions of which one alone may stand there: that one, be its Gen the lesser one or the greater.
func TestOneOfBothInPlace(t *testing.T) {
	g := geom(40, 7, 31, 3)
	for _, a := range gens() {
		for _, b := range gens() {
			if a%2 != b%2 {
				continue
			}
			d := device(t, total(g))
			lay(d, 0, laid(made(g, a)))
			lay(d, 1, laid(made(g, b)))
			want := made(g, a)
			if a%2 == 1 {
				want = made(g, b)
			}
			newest(t, "one in its place", d, want)
		}
	}
}

// P19.2: which is told hangs on Gen alone: with the lesser one all else is greater.
func TestGenAlone(t *testing.T) {
	small, great := geom(1, 6, 24, 2), geom(64, 16, 32, 16)
	for _, gen := range []uint32{0, 6, 7, 256} {
		less := api.Region{Gen: gen, Geom: great, Seg: 15, Off: 32, Seq: math.MaxUint32, Roots: [8]int{515, 515, 515, 515, 515, 515, 515, 515}}
		for _, more := range []api.Region{{Gen: gen + 1, Geom: small}, {Gen: gen + 1, Geom: great}} {
			d := device(t, 1024)
			lay(d, int(gen%2), laid(less))
			newest(t, "the one alone", d, less)
			lay(d, 1-int(gen%2), laid(more))
			newest(t, "both", d, more)
		}
	}
}

// spoilt are sectors in place of those of r that are no region's.
func spoilt(r api.Region) [][2]api.Sector {
	l := laid(r)
	var out [][2]api.Sector
	each := func(s [2]api.Sector) { // the first one, the second one, and both
		out = append(out, [2]api.Sector{s[0], l[1]}, [2]api.Sector{l[0], s[1]})
	}
	each([2]api.Sector{})
	each([2]api.Sector{sample(0), sample(1)})
	each([2]api.Sector{l[1], l[0]})
	out = append(out, [2]api.Sector{}, [2]api.Sector{sample(0), sample(1)}, [2]api.Sector{l[1], l[0]})
	for _, gen := range []uint32{r.Gen + 2, r.Gen + 1, r.Gen - 2, r.Gen + 256, r.Gen ^ 1<<30} {
		each(laid(made(r.Geom, gen)))
		x := r
		x.Gen = gen
		each(laid(x))
	}
	for which := range 2 { // a byte that says that it is a region's sector, which one, its Gen, or is a zero
		for i := range 64 {
			if i >= 6 && i < 22 {
				continue
			}
			x := l
			x[which][i]++
			out = append(out, x)
		}
		x := l
		x[0][which] = 255
		x[1][which] = 255
		out = append(out, x)
	}
	return out
}

// P19.2: one or both sectors of one of the two turned, zeros, of another Gen or of two regions: the other one is told, be its Gen the lesser one or the greater; with both so, none.
func TestSpoilt(t *testing.T) {
	for _, g := range shapes() {
		for _, gen := range []uint32{6, 7, 0x01020304} {
			for _, other := range []uint32{gen + 1, gen - 1} {
				d := device(t, total(g))
				r, o := made(g, gen), made(g, other)
				which := int(gen % 2)
				for _, l := range spoilt(r) {
					if _, e := region.Decode(l); e != api.ErrForm {
						t.Fatalf("%v are a region's", l)
					}
					lay(d, 1-which, laid(o))
					lay(d, which, laid(r))
					newest(t, "both", d, made(g, max(gen, other)))
					lay(d, which, l)
					newest(t, "one spoilt", d, o)
					lay(d, 1-which, spoilt(o)[2])
					corrupt(t, "both spoilt", d)
				}
			}
		}
	}
}

// second tells what Newest has to, by another way: all that may be told, put in order of Gen.
func second(d *dev.Dev) (api.Region, api.Errno) {
	var may []api.Region
	for i := 0; i+1 < d.Len() && i < 4; i += 2 {
		a, _ := d.Read(i)
		b, _ := d.Read(i + 1)
		r, e := region.Decode([2]api.Sector{a, b})
		if e == api.OK && r.Gen&1 == uint32(i/2) && 4+r.Segs*r.SegLen <= d.Len() {
			may = append(may, r)
		}
	}
	if len(may) == 0 {
		return api.Region{}, api.ErrCorrupt
	}
	slices.SortFunc(may, func(a, b api.Region) int { return int(a.Gen) - int(b.Gen) })
	return may[len(may)-1], api.OK
}

// P19.2: each byte of each sector turned to some others, held against the second reader: they may be another region's.
func TestTurned(t *testing.T) {
	told := map[api.Errno]int{}
	for _, g := range shapes() {
		for _, alone := range []bool{false, true} {
			d := device(t, total(g))
			lay(d, 0, laid(made(g, 6)))
			if !alone {
				lay(d, 1, laid(made(g, 7)))
			}
			for at := range 4 {
				was, _ := d.Read(at)
				for i := range was {
					for _, by := range []byte{1, 2, 3, 4, 128, 255} {
						s := was
						s[i] += by
						d.Write(at, s)
						r, e := asked(t, "turned", d)
						if want, wrong := second(d); r != want || e != wrong {
							t.Errorf("sector %d, byte %d: %+v, %d, not %+v, %d", at, i, r, e, want, wrong)
						}
						told[e]++
						d.Crash(nil)
					}
				}
			}
		}
	}
	if told[api.OK] == 0 || told[api.ErrCorrupt] == 0 || len(told) != 2 {
		t.Errorf("told: %v", told)
	}
}

// P19.2: two regions of one Gen, a sector of each: they are a region's, if region.Decode takes them.
func TestTwoOfOneGen(t *testing.T) {
	a, b := made(geom(64, 6, 24, 2), 6), made(geom(64, 16, 32, 9), 6)
	b.Seg, b.Off, b.Seq, b.Roots = 15, 32, 9, [8]int{515, 0, 3 + 100}
	for _, n := range []int{148, 516, 1024} {
		d := device(t, n)
		lay(d, 1, laid(made(a.Geom, 5)))
		lay(d, 0, [2]api.Sector{laid(a)[0], laid(b)[1]})
		newest(t, "the roots of a greater geometry", d, made(a.Geom, 5))
		want := b
		want.Roots = a.Roots
		if n < 516 {
			want = made(a.Geom, 5)
		}
		lay(d, 0, [2]api.Sector{laid(b)[0], laid(a)[1]})
		newest(t, "the roots of a lesser geometry", d, want)
	}
}

// P19.2: a region whose geometry has more sectors than the device is none, in either place and whatever its Gen; one that has just as many, or fewer, is one.
func TestGeometries(t *testing.T) {
	least := geom(1, 6, 24, 2)
	for _, g := range shapes() {
		for _, gen := range []uint32{6, 7} {
			r := made(g, gen)
			for _, n := range []int{total(g) - g.SegLen, total(g) - 4, total(g) - 1, total(g), total(g) + 1, 1024} {
				d := device(t, n)
				lay(d, int(gen%2), laid(r))
				if n >= total(g) {
					newest(t, "alone", d, r)
				} else {
					corrupt(t, "alone", d)
				}
				if n < total(least) {
					continue
				}
				for _, other := range []uint32{gen - 1, gen + 1} {
					o := made(least, other)
					lay(d, 1-int(gen%2), laid(o))
					want := o
					if n >= total(g) && gen > other {
						want = r
					}
					newest(t, "with another", d, want)
				}
			}
		}
	}
}

// P19.2: both regions of more sectors than there are: none.
func TestBothTooGreat(t *testing.T) {
	for _, g := range shapes() {
		d := device(t, total(g)-1)
		lay(d, 0, laid(made(g, 6)))
		lay(d, 1, laid(made(g, 7)))
		corrupt(t, "both too great", d)
	}
}

// P19.2: what is read of a sector is the last loose write of it; behind a crash what was flushed.
func TestLoose(t *testing.T) {
	g := geom(16, 8, 24, 4)
	d := device(t, total(g))
	lay(d, 0, laid(made(g, 6)))
	next := laid(made(g, 7))
	d.Write(2, next[0])
	newest(t, "one sector loose", d, made(g, 6))
	d.Write(3, next[1])
	newest(t, "both loose", d, made(g, 7))
	d.Fail(0)
	newest(t, "a failure ahead", d, made(g, 7))
	if e := d.Flush(); e != api.ErrDevice {
		t.Errorf("the failure was met: %d", e)
	}
	newest(t, "flush failed", d, made(g, 7))
	d.Crash([]byte{1})
	newest(t, "crashed", d, made(g, 6))
}

// Rules 2 and 4: what is told is new memory, what was handed in is not kept, and answers hang on the device alone.
func TestApart(t *testing.T) {
	g := geom(40, 7, 31, 3)
	a, b := device(t, total(g)), device(t, total(g))
	r := made(g, 8)
	if e := anchor.Write(a, r); e != api.OK || r != made(g, 8) {
		t.Errorf("Write: %d", e)
	}
	r.Gen, r.Roots[0] = 9, 5
	newest(t, "changed outside", a, made(g, 8))
	corrupt(t, "another device", b)
	got, _ := anchor.Newest(a)
	got.Gen, got.Pages, got.Roots[2] = 10, 3, 9
	newest(t, "changed outside", a, made(g, 8))
	anchor.Write(b, made(g, 3))
	newest(t, "the one", a, made(g, 8))
	newest(t, "the other", b, made(g, 3))
	anchor.Newest(nil)
	anchor.Write(nil, made(g, 9))
	newest(t, "behind no device", a, made(g, 8))
}

// P19.3: Writes of rising Gens, each told behind it and behind a crash, the one ahead gone in between.
func TestOneBehindTheOther(t *testing.T) {
	for _, g := range shapes() {
		d, _ := dev.New(total(g))
		for gen := range uint32(40) {
			if e := anchor.Write(d, made(g, gen)); e != api.OK {
				t.Errorf("Gen %d: %d", gen, e)
			}
			newest(t, "told OK", d, made(g, gen))
			d.Crash([]byte{byte(gen), 1, 0, 1})
			newest(t, "told OK, crashed", d, made(g, gen))
		}
	}
}

// ahead are devices whose newest region is of that Gen, with what may stand in the other place: none, zeros, the Gen ahead, a part of one ahead.
func ahead(t *testing.T, g api.Geom, gen uint32) []*dev.Dev {
	t.Helper()
	elder := laid(made(g, gen-1))
	var out []*dev.Dev
	for _, l := range [][2]api.Sector{{}, {sample(5), sample(6)}, elder, {elder[0]}, {elder[0], laid(made(g, gen-3))[1]}, {laid(made(g, gen-3))[0], elder[1]}} {
		d := device(t, total(g))
		lay(d, int(gen%2), laid(made(g, gen)))
		lay(d, 1-int(gen%2), l)
		newest(t, "ahead", d, made(g, gen))
		out = append(out, d)
	}
	return out
}

// P19.3: a Write of the next Gen cut at each of its writes and its flush, and a crash that keeps each subset of what is loose: the one ahead, or the new one, if all of it was done; the next Write is whole.
func TestCut(t *testing.T) {
	for _, g := range shapes() {
		for _, gen := range []uint32{4, 5, 255, 256, 1<<31 - 3} {
			for fuse := range 4 {
				for keep := range 4 {
					for _, d := range ahead(t, g, gen) {
						cut(t, d, made(g, gen), made(g, gen+1), fuse, keep)
					}
				}
			}
		}
	}
}

func cut(t *testing.T, d *dev.Dev, was, next api.Region, fuse, keep int) {
	t.Helper()
	d.Fail(fuse)
	e := anchor.Write(d, next)
	if (fuse < 3) != (e == api.ErrDevice) || (fuse == 3) != (e == api.OK) {
		t.Errorf("cut at %d: %d", fuse, e)
	}
	d.Crash([]byte{byte(keep % 2), byte(keep / 2)})
	want := was
	if fuse == 3 || fuse == 2 && keep == 3 {
		want = next
	}
	newest(t, "cut", d, want)
	if e := anchor.Write(d, next); e != api.OK {
		t.Errorf("behind a cut: %d", e)
	}
	newest(t, "behind a cut", d, next)
}

// P19.3: long plays of Writes, cut or not, of the Gen that follows the newest one: no part of another Write of a Gen lies anywhere, as all Writes of a Gen are alike.
func TestPlays(t *testing.T) {
	for start := range uint32(30) {
		g := shapes()[start%5]
		d := device(t, total(g))
		gen := start
		anchor.Write(d, made(g, gen))
		turn := start*2654435761 + 1
		for range 200 {
			turn = turn*1664525 + 1013904223
			fuse, keep := int(turn>>28)%4, int(turn>>24)%4
			d.Fail(fuse)
			e := anchor.Write(d, made(g, gen+1))
			d.Crash([]byte{byte(keep % 2), byte(keep / 2)})
			r, _ := asked(t, "play", d)
			if r != made(g, gen+1) && (r != made(g, gen) || e == api.OK) {
				t.Fatalf("behind Gen %d, cut at %d (%d), kept %d: %+v", gen, fuse, e, keep, r)
			}
			gen = r.Gen
		}
		if gen < start+50 {
			t.Errorf("from %d to %d alone", start, gen)
		}
	}
}
