package block_test

import (
	"bytes"
	"math"
	"slices"
	"testing"

	"silt/api"
	"silt/block"
)

// The ordinary blocks, one of each kind: none of their bytes that may be set is zero.

func image() api.Block {
	b := api.Block{Kind: api.Image, Id: 21}
	for i := range b.Page {
		b.Page[i] = byte(0xE0 + i)
	}
	return b
}

func delta() api.Block {
	return api.Block{Kind: api.Delta, Id: 21, Off: 9, Bytes: []byte{0xA1, 0xA2, 0xA3}, Prev: 0x0234}
}

func mapping() api.Block {
	return api.Block{Kind: api.Map, Id: 5, Heads: [8]int{0x0101, 0x0202, 0x0303, 4, 1023, 1, 0x0106, 0x0307}}
}

func ordinary() []api.Block { return []api.Block{image(), delta(), mapping()} }

// with is b, changed.
func with(b api.Block, change func(b *api.Block)) api.Block {
	change(&b)
	return b
}

func same(a, b api.Block) bool {
	return a.Kind == b.Kind && a.Id == b.Id && a.Page == b.Page && a.Off == b.Off && bytes.Equal(a.Bytes, b.Bytes) && a.Prev == b.Prev && a.Heads == b.Heads
}

// numbers are sequence numbers, each byte of them told from the others.
func numbers() []uint32 {
	return []uint32{0, 1, 255, 256, 0x01020304, 0x10000, 1 << 24, 1<<31 - 1, 1 << 31, math.MaxUint32 - 1, math.MaxUint32}
}

// may holds that b may be, and that its sector says it.
func may(t *testing.T, name string, b api.Block) {
	t.Helper()
	if !block.Good(b) {
		t.Errorf("%s: %+v may be", name, b)
	}
	for _, seq := range numbers() {
		s, e := block.Encode(b, seq)
		if e != api.OK {
			t.Errorf("%s: Encode %+v: %v", name, b, e)
		}
		if want := laid(b, seq); s != want {
			t.Errorf("%s: Encode %+v, %d: %v, not %v", name, b, seq, s, want)
		}
		back, n, e := block.Decode(s)
		if e != api.OK || n != seq || !same(back, b) {
			t.Errorf("%s: Decode of Encode of %+v, %d: %+v, %d, %v", name, b, seq, back, n, e)
		}
	}
}

// mayNot holds that b may not be.
func mayNot(t *testing.T, name string, b api.Block) {
	t.Helper()
	if block.Good(b) {
		t.Errorf("%s: %+v may not be", name, b)
	}
	for _, seq := range []uint32{0, 7, math.MaxUint32} {
		if s, e := block.Encode(b, seq); e != api.ErrForm || s != (api.Sector{}) {
			t.Errorf("%s: Encode %+v: %v, %v", name, b, s, e)
		}
	}
}

// none holds that s is no block's sector.
func none(t *testing.T, name string, s api.Sector) {
	t.Helper()
	if b, seq, e := block.Decode(s); e != api.ErrForm || seq != 0 || !same(b, api.Block{}) {
		t.Errorf("%s: Decode %v: %+v, %d, %v", name, s, b, seq, e)
	}
}

// laid is the sector of a block that may be, one byte behind the other.
func laid(b api.Block, seq uint32) (s api.Sector) {
	l := []byte{byte(b.Kind), byte(b.Id), byte(seq % 256), byte(seq / 256 % 256), byte(seq / 65536 % 256), byte(seq / 16777216)}
	two := func(n int) { l = append(l, byte(n%256), byte(n/256)) }
	switch b.Kind {
	case 1:
		l = append(l, b.Page[:]...)
	case 2:
		l = append(l, byte(b.Off), byte(len(b.Bytes)))
		l = append(l, b.Bytes...)
		l = append(l, make([]byte, 16-len(b.Bytes))...)
		two(b.Prev)
	case 3:
		for _, h := range b.Heads {
			two(h)
		}
	}
	copy(s[:], l)
	return s
}

// P4.1: sectors written out byte by byte.
func TestSectors(t *testing.T) {
	full := api.Block{Kind: 2, Id: 63, Off: 16, Bytes: []byte{1, 2, 3, 4, 5, 6, 7, 8, 9, 10, 11, 12, 13, 14, 15, 16}, Prev: 1023}
	for _, x := range []struct {
		name string
		b    api.Block
		seq  uint32
		s    api.Sector
	}{
		{"an image", image(), 0x44332211, api.Sector{1, 21, 0x11, 0x22, 0x33, 0x44,
			0xE0, 0xE1, 0xE2, 0xE3, 0xE4, 0xE5, 0xE6, 0xE7, 0xE8, 0xE9, 0xEA, 0xEB, 0xEC, 0xED, 0xEE, 0xEF,
			0xF0, 0xF1, 0xF2, 0xF3, 0xF4, 0xF5, 0xF6, 0xF7, 0xF8, 0xF9, 0xFA, 0xFB, 0xFC, 0xFD, 0xFE, 0xFF}},
		{"an image of zeros", api.Block{Kind: 1}, 0, api.Sector{1}},
		{"a delta", delta(), 0x44332211, api.Sector{2, 21, 0x11, 0x22, 0x33, 0x44, 9, 3, 0xA1, 0xA2, 0xA3, 24: 0x34, 25: 0x02}},
		{"a full delta", full, math.MaxUint32, api.Sector{2, 63, 255, 255, 255, 255, 16, 16, 1, 2, 3, 4, 5, 6, 7, 8, 9, 10, 11, 12, 13, 14, 15, 16, 255, 3}},
		{"a delta of one zero", api.Block{Kind: 2, Bytes: []byte{0}, Prev: 1}, 0, api.Sector{2, 7: 1, 24: 1}},
		{"a mapping page", mapping(), 0x44332211, api.Sector{3, 5, 0x11, 0x22, 0x33, 0x44, 1, 1, 2, 2, 3, 3, 4, 0, 255, 3, 1, 0, 6, 1, 7, 3}},
		{"a mapping page of no pages", api.Block{Kind: 3}, 1, api.Sector{3, 0, 1}},
	} {
		s, e := block.Encode(x.b, x.seq)
		if e != api.OK || s != x.s {
			t.Errorf("%s: %v, %v, not %v", x.name, s, e, x.s)
		}
		b, seq, e := block.Decode(x.s)
		if e != api.OK || seq != x.seq || !same(b, x.b) {
			t.Errorf("%s: %+v, %d, %v, not %+v, %d", x.name, b, seq, e, x.b, x.seq)
		}
	}
}

// P4.1, P4.2: ordinary blocks, and those with all that they name zero, or as great as may be.
func TestOrdinary(t *testing.T) {
	for _, b := range ordinary() {
		may(t, "ordinary", b)
	}
	may(t, "zeros", api.Block{Kind: api.Image})
	may(t, "zeros", api.Block{Kind: api.Delta, Bytes: make([]byte, 1), Prev: api.Zeros})
	may(t, "zeros", api.Block{Kind: api.Map})
	may(t, "great", with(image(), func(b *api.Block) {
		b.Id = 63
		for i := range b.Page {
			b.Page[i] = 255
		}
	}))
	may(t, "great", api.Block{Kind: api.Delta, Id: 63, Off: 16, Bytes: bytes.Repeat([]byte{255}, 16), Prev: 1023})
	may(t, "great", with(mapping(), func(b *api.Block) { b.Id, b.Heads = 7, [8]int{1023, 1023, 1023, 1023, 1023, 1023, 1023, 1023} }))
}

// far are numbers that no field may have, though their lowest bits may.
func far() []int {
	return []int{math.MinInt, math.MinInt + 5, math.MinInt32, -1 << 16, -256, -255, -252, -251, -4, -1, 1 << 16, 1<<16 + 1, 1<<16 + 5, 1<<32 + 1, 1<<32 + 5, 1 << 62, math.MaxInt - 1, math.MaxInt}
}

// P4.1: Id, from 0 to the last one of each kind.
func TestIds(t *testing.T) {
	for _, x := range []struct {
		b    api.Block
		last int
	}{{image(), 63}, {delta(), 63}, {mapping(), 7}} {
		for id := -3; id <= 300; id++ {
			b := with(x.b, func(b *api.Block) { b.Id = id })
			if id >= 0 && id <= x.last {
				may(t, "Id", b)
			} else {
				mayNot(t, "Id", b)
			}
			if id > x.last && id < 256 {
				none(t, "Id", laid(b, 77))
			}
		}
		for _, id := range far() {
			mayNot(t, "Id", with(x.b, func(b *api.Block) { b.Id = id }))
		}
	}
}

// P4.1: Off and Bytes, each place with each length, up to the page's end.
func TestOffAndBytes(t *testing.T) {
	for off := -2; off <= 40; off++ {
		for n := 0; n <= 40; n++ {
			b := with(delta(), func(b *api.Block) { b.Off, b.Bytes = off, bytes.Repeat([]byte{0x5A}, n) })
			if off >= 0 && n >= 1 && n <= 16 && off+n <= 32 {
				may(t, "Off and Bytes", b)
			} else {
				mayNot(t, "Off and Bytes", b)
			}
		}
		for _, n := range []int{255, 256, 257, 65537} {
			mayNot(t, "many Bytes", with(delta(), func(b *api.Block) { b.Off, b.Bytes = off, make([]byte, n) }))
		}
	}
	for _, off := range append(far(), 255, 256, 257, 1<<32) {
		for _, n := range []int{1, 2, 16} {
			mayNot(t, "Off", with(delta(), func(b *api.Block) { b.Off, b.Bytes = off, make([]byte, n) }))
		}
	}
	mayNot(t, "nil Bytes", with(delta(), func(b *api.Block) { b.Bytes = nil }))
}

// isHead is what the chapter says of a head.
func isHead(h int) bool { return h == 0 || h == 1 || h >= 4 && h <= 1023 }

// P4.1: Prev, a head but NoPage.
func TestPrev(t *testing.T) {
	for h := -5; h <= 1100; h++ {
		b := with(delta(), func(b *api.Block) { b.Prev = h })
		if isHead(h) && h != 0 {
			may(t, "Prev", b)
		} else {
			mayNot(t, "Prev", b)
		}
		if h >= 0 && (!isHead(h) || h == 0) {
			none(t, "Prev", laid(b, 77))
		}
	}
	for _, h := range append(far(), 1<<15, 1<<16-1) {
		mayNot(t, "Prev", with(delta(), func(b *api.Block) { b.Prev = h }))
	}
}

// P4.1: each of the Heads.
func TestHeads(t *testing.T) {
	for i := range 8 {
		for _, h := range append(far(), -3, -2, 0, 1, 2, 3, 4, 5, 255, 256, 257, 258, 259, 512, 1022, 1023, 1024, 1025, 1<<15, 1<<16-1) {
			for _, base := range []api.Block{mapping(), {Kind: api.Map, Id: 1}} {
				b := with(base, func(b *api.Block) { b.Heads[i] = h })
				if isHead(h) {
					may(t, "Heads", b)
				} else {
					mayNot(t, "Heads", b)
				}
				if h >= 0 && h < 1<<16 && !isHead(h) {
					none(t, "Heads", laid(b, 77))
				}
			}
		}
	}
}

// P4.1: what a kind does not name is zero; nil and empty Bytes are one.
func TestUnnamed(t *testing.T) {
	for _, x := range []struct {
		name   string
		kinds  []int // that name it
		change func(b *api.Block)
	}{
		{"the page's first byte", []int{1}, func(b *api.Block) { b.Page[0] ^= 1 }},
		{"the page's last byte", []int{1}, func(b *api.Block) { b.Page[31] ^= 0x80 }},
		{"Off", []int{2}, func(b *api.Block) { b.Off++ }},
		{"a great Off", nil, func(b *api.Block) { b.Off = 256 }},
		{"an Off below 0", nil, func(b *api.Block) { b.Off = -1 }},
		{"a zero more", []int{2}, func(b *api.Block) { b.Bytes = append(b.Bytes, 0) }},
		{"a byte more", []int{2}, func(b *api.Block) { b.Bytes = append(b.Bytes, 3) }},
		{"Prev", []int{2}, func(b *api.Block) { b.Prev += 5 }},
		{"Zeros as Prev", []int{2}, func(b *api.Block) { b.Prev = 1 }},
		{"a Prev below 0", nil, func(b *api.Block) { b.Prev = -1 }},
		{"the first of the Heads", []int{3}, func(b *api.Block) { b.Heads[0] += 4 }},
		{"the last of the Heads", []int{3}, func(b *api.Block) { b.Heads[7] = 1 }},
		{"one of the Heads below 0", nil, func(b *api.Block) { b.Heads[3] = -4 }},
	} {
		for _, base := range ordinary() {
			b := with(base, x.change)
			if slices.Contains(x.kinds, b.Kind) {
				may(t, x.name, b)
			} else {
				mayNot(t, x.name, b)
			}
		}
	}
	for _, base := range []api.Block{image(), mapping()} {
		may(t, "empty Bytes", with(base, func(b *api.Block) { b.Bytes = []byte{} }))
		may(t, "empty Bytes with spare room", with(base, func(b *api.Block) { b.Bytes = make([]byte, 0, 4) }))
	}
}

// P4.1: kinds that are no block's.
func TestKinds(t *testing.T) {
	for _, base := range append(ordinary(), api.Block{}, api.Block{Bytes: []byte{1}, Prev: 1}) {
		for _, kind := range append(far(), -3, -2, 0, 4, 5, 6, 7, 127, 128, 129, 255, 256, 257, 258, 259, 1<<32+2, 1<<32+3) {
			b := with(base, func(b *api.Block) { b.Kind = kind })
			mayNot(t, "kind", b)
			for _, known := range ordinary() {
				s := laid(known, 77)
				if kind >= 0 && kind < 256 {
					s[0] = byte(kind)
					none(t, "kind", s)
				}
			}
		}
	}
	for kind := range 256 {
		if kind < 1 || kind > 3 {
			none(t, "kind alone", api.Sector{byte(kind)})
		}
	}
}

// P4.1: a block as it is told by another kind is none, as it bears what that kind does not name.
func TestKindsApart(t *testing.T) {
	for _, base := range ordinary() {
		for kind := 1; kind <= 3; kind++ {
			if kind != base.Kind {
				mayNot(t, "another kind", with(base, func(b *api.Block) { b.Kind = kind }))
			}
		}
	}
}

// P4.1: sectors with a byte set where zeros belong, at each such place.
func TestZerosBelong(t *testing.T) {
	for _, b := range append(ordinary(), api.Block{Kind: 1}, api.Block{Kind: 2, Bytes: []byte{0}, Prev: 1}, api.Block{Kind: 3},
		api.Block{Kind: 2, Off: 16, Bytes: make([]byte, 15), Prev: 1023}, api.Block{Kind: 2, Off: 16, Bytes: make([]byte, 16), Prev: 1023}) {
		var zeros []int
		from := []int{0, 38, 26, 22}[b.Kind]
		if b.Kind == 2 {
			for i := 8 + len(b.Bytes); i < 24; i++ {
				zeros = append(zeros, i)
			}
		}
		for i := from; i < 64; i++ {
			zeros = append(zeros, i)
		}
		for _, seq := range []uint32{0, 77, math.MaxUint32} {
			s := laid(b, seq)
			if back, n, e := block.Decode(s); e != api.OK || n != seq || !same(back, b) {
				t.Errorf("Decode %v: %+v, %d, %v", s, back, n, e)
			}
			for _, i := range zeros {
				for bit := range 8 {
					x := s
					x[i] = 1 << bit
					none(t, "a byte among zeros", x)
				}
			}
		}
	}
}

// P4.1: sectors whose fields say a block that may not be.
func TestFields(t *testing.T) {
	for _, x := range []struct {
		name string
		s    api.Sector
	}{
		{"zeros", api.Sector{}},
		{"an Id of an image", api.Sector{1, 64}},
		{"an Id of a delta", api.Sector{2, 64, 7: 1, 24: 1}},
		{"an Id of a mapping page", api.Sector{3, 8}},
		{"no Bytes", api.Sector{2, 24: 1}},
		{"no Bytes at the page's end", api.Sector{2, 6: 32, 24: 1}},
		{"a byte beyond the page", api.Sector{2, 6: 32, 7: 1, 24: 1}},
		{"two bytes, one beyond the page", api.Sector{2, 6: 31, 7: 2, 24: 1}},
		{"16 bytes, one beyond the page", api.Sector{2, 6: 17, 7: 16, 24: 1}},
		{"Off of all ones", api.Sector{2, 6: 255, 7: 1, 24: 1}},
		{"17 bytes", api.Sector{2, 7: 17, 24: 1}},
		{"57 bytes, one beyond the sector", api.Sector{2, 7: 57, 24: 1}},
		{"255 bytes", api.Sector{2, 7: 255, 24: 1}},
		{"Off and bytes that wrap round", api.Sector{2, 6: 250, 7: 16, 24: 1}},
		{"Prev is NoPage", api.Sector{2, 7: 1}},
		{"Prev is 2", api.Sector{2, 7: 1, 24: 2}},
		{"Prev is 3", api.Sector{2, 7: 1, 24: 3}},
		{"Prev is 1024", api.Sector{2, 7: 1, 25: 4}},
		{"Prev is of all ones", api.Sector{2, 7: 1, 24: 255, 25: 255}},
		{"Prev with its bytes turned round", api.Sector{2, 7: 1, 24: 3, 25: 255}},
		{"the first of the Heads is 2", api.Sector{3, 6: 2}},
		{"the last of the Heads is 3", api.Sector{3, 20: 3}},
		{"the last of the Heads is 1024", api.Sector{3, 21: 4}},
		{"one of the Heads is of all ones", api.Sector{3, 12: 255, 13: 255}},
	} {
		none(t, x.name, x.s)
	}
	all := api.Sector{}
	for i := range all {
		all[i] = 255
	}
	none(t, "all ones", all)
}

// P4.1, P4.2: of any sector near to those of blocks, Decode tells a block whose sector it is, or none.
func TestDecodeOfAny(t *testing.T) {
	told, asked := 0, 0
	for _, b := range append(ordinary(), api.Block{Kind: 2, Off: 16, Bytes: make([]byte, 16), Prev: 1}, api.Block{Kind: 3, Id: 7}) {
		s := laid(b, 0x01020304)
		for i := range s {
			for x := range 256 {
				c := s
				c[i] = byte(x)
				asked++
				back, seq, e := block.Decode(c)
				if e != api.OK {
					none(t, "near", c)
					continue
				}
				told++
				if !block.Good(back) || laid(back, seq) != c {
					t.Errorf("Decode %v: %+v, %d", c, back, seq)
				}
			}
		}
	}
	if told == 0 || told == asked {
		t.Errorf("%d of %d are blocks", told, asked)
	}
}

// Rule 2: what is handed in is not changed, its spare room included, and what is told shares no memory.
func TestMemory(t *testing.T) {
	room := bytes.Repeat([]byte{0x77}, 32)
	b := with(delta(), func(b *api.Block) { b.Bytes = room[4:7] })
	block.Good(b)
	s, _ := block.Encode(b, 5)
	if !bytes.Equal(room, bytes.Repeat([]byte{0x77}, 32)) || len(b.Bytes) != 3 || b.Off != 9 || b.Prev != 0x0234 {
		t.Errorf("Encode has changed %v in %v", b, room)
	}
	one, _, _ := block.Decode(s)
	two, _, _ := block.Decode(s)
	for _, l := range [][]byte{one.Bytes[:cap(one.Bytes)], room} {
		for i := range l {
			l[i] = 0x11
		}
	}
	if !bytes.Equal(two.Bytes, []byte{0x77, 0x77, 0x77}) {
		t.Errorf("two answers share memory: %v", two.Bytes)
	}
	if again, _ := block.Encode(with(b, func(b *api.Block) { b.Bytes = two.Bytes }), 5); again != s {
		t.Errorf("the sector has changed: %v, not %v", again, s)
	}
}

// Rule 4: what is answered hangs on the arguments alone.
func TestAnswersStay(t *testing.T) {
	for _, other := range append(ordinary(), api.Block{}, api.Block{Kind: 9}) {
		for _, b := range ordinary() {
			o, _ := block.Encode(other, 9)
			block.Decode(o)
			may(t, "behind another", b)
		}
	}
}
