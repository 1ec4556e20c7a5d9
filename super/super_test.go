package super_test

import (
	"bytes"
	"encoding/binary"
	"hash/crc32"
	"math"
	"slices"
	"testing"

	"wattle/api"
	"wattle/super"
)

func at(level, disks, chunk int) api.Geom {
	return api.Geom{Level: level, Disks: disks, Chunk: chunk}
}

// may tells whether a geometry may be, apart from what package geom says.
func may(g api.Geom) bool {
	return (g.Level == 5 || g.Level == 6) && g.Disks >= g.Level-2 && g.Disks <= 8 && (g.Chunk == 1 || g.Chunk == 2 || g.Chunk == 4)
}

// can tells whether one geometry may become another, apart from what package geom says.
func can(a, b api.Geom) bool {
	width := func(g api.Geom) int { return g.Disks - (g.Level - 4) }
	return may(a) && may(b) && a != b && b.Disks >= a.Disks && b.Level >= a.Level && width(b) >= width(a)
}

// good is each geometry that may be.
func good() []api.Geom {
	var l []api.Geom
	for level := range 10 {
		for disks := range 10 {
			for chunk := range 10 {
				if g := at(level, disks, chunk); may(g) {
					l = append(l, g)
				}
			}
		}
	}
	return l
}

// bad is geometries that may not be: right ones, wrong in one number (some but for digits that a byte would lose), and some wrong in more.
func bad() []api.Geom {
	l := []api.Geom{{}, at(0, 3, 1), at(5, 0, 1), at(5, 3, 0), at(6, 3, 1), at(5, 9, 1), at(-5, -3, -1), at(255, 255, 255), at(math.MaxInt, math.MaxInt, math.MaxInt), at(math.MinInt, math.MinInt, math.MinInt)}
	for _, n := range []int{-1, -251, 0, 3, 4, 7, 8, 255, 256, 256 + 5, 256 + 6, 1<<32 + 5, math.MaxInt, math.MinInt, math.MinInt + 5} {
		l = append(l, at(n, 4, 1), at(n, 8, 4))
	}
	for _, n := range []int{-1, -252, 0, 1, 2, 9, 255, 256, 256 + 4, 1<<32 + 4, math.MaxInt, math.MinInt, math.MinInt + 4} {
		l = append(l, at(5, n, 1), at(6, n, 2))
	}
	for _, n := range []int{-1, -255, 0, 3, 5, 8, 255, 256, 256 + 1, 256 + 2, 1<<32 + 1, math.MaxInt, math.MinInt, math.MinInt + 1} {
		l = append(l, at(5, 3, n), at(6, 8, n))
	}
	return l
}

// great is numbers far from any that a field may have; some are in their low digits as those that it may have.
var great = []int{1 << 32, 1<<32 + 1, 1<<33 + 7, 1<<40 + 1, math.MaxInt - 1, math.MaxInt, -1, -2, -255, -65535, math.MinInt32, math.MinInt32 + 1, -1 << 32, 1 - 1<<32, math.MinInt, math.MinInt + 1, math.MinInt + 7}

// still is a Super that is not running, under way one that is; each with no number of a field like another's.
func still() super.Super {
	return super.Super{Gen: 0x01020304, A: at(5, 3, 2), Epoch: 0x1617, Out: 0x28}
}

func underway() super.Super {
	return super.Super{Gen: 0x01020304, A: at(5, 3, 2), B: at(6, 7, 4), Running: true, Window: 9, Epoch: 0x1617, Out: 0x28}
}

// seal sets a sector's last four bytes as its seal, by another's work than package crc.
func seal(b []byte) []byte {
	binary.BigEndian.PutUint32(b[28:], crc32.Checksum(b[:28], crc32.MakeTable(crc32.Castagnoli)))
	return b
}

// sealed is a sector with this beginning, zeros behind it, and its seal.
func sealed(begin string) []byte {
	b := make([]byte, 32)
	copy(b, begin)
	return seal(b)
}

// encode is the Super's sector, which it must have.
func encode(t *testing.T, s super.Super) []byte {
	t.Helper()
	b, e := super.Encode(s)
	if e != api.OK || len(b) != 32 {
		t.Fatalf("Encode(%v): %x, %d", s, b, e)
	}
	return b
}

// stands fails the test unless there may be such a Super, its sector is this one, and is decoded as it.
func stands(t *testing.T, s super.Super, want []byte) {
	t.Helper()
	if e := super.Check(s); e != api.OK {
		t.Errorf("Check(%v): %d", s, e)
	}
	if b, e := super.Encode(s); e != api.OK || !bytes.Equal(b, want) {
		t.Errorf("Encode(%v): %x, %d, not %x", s, b, e, want)
	}
	if got, e := super.Decode(want); e != api.OK || got != s {
		t.Errorf("Decode(%x): %v, %d, not %v", want, got, e, s)
	}
}

// passes fails the test unless there may be such a Super, and its sector is decoded as it.
func passes(t *testing.T, s super.Super) {
	t.Helper()
	stands(t, s, sectorOf(s))
}

// sectorOf is the sector of a Super that may be, by the chapter's words.
func sectorOf(s super.Super) []byte {
	b := []byte("WSUP")
	b = binary.BigEndian.AppendUint32(b, uint32(s.Gen))
	b = append(b, byte(s.A.Level), byte(s.A.Disks), byte(s.A.Chunk))
	b = append(b, byte(s.B.Level), byte(s.B.Disks), byte(s.B.Chunk))
	if s.Running {
		b = append(b, 1)
	} else {
		b = append(b, 0)
	}
	b = append(b, byte(s.Window))
	b = binary.BigEndian.AppendUint16(b, uint16(s.Epoch))
	b = append(b, byte(s.Out))
	return sealed(string(b))
}

// refused fails the test unless there may be no such Super, with nothing beside the error.
func refused(t *testing.T, s super.Super) {
	t.Helper()
	if e := super.Check(s); e != api.ErrArg {
		t.Errorf("Check(%v): %d", s, e)
	}
	if b, e := super.Encode(s); e != api.ErrArg || len(b) != 0 {
		t.Errorf("Encode(%v): %x, %d", s, b, e)
	}
}

// formless fails the test unless these are the bytes of no Super, with nothing beside the error.
func formless(t *testing.T, name string, b []byte) {
	t.Helper()
	if s, e := super.Decode(b); e != api.ErrForm || s != (super.Super{}) {
		t.Errorf("%s: Decode(%x): %v, %d", name, b, s, e)
	}
}

// P9.1: the chapter's example.
func TestExample(t *testing.T) {
	if b, e := super.Encode(super.Super{}); e != api.ErrArg || len(b) != 0 {
		t.Errorf("%x, %d", b, e)
	}
	refused(t, super.Super{})
}

// P9.1: sectors by hand, byte by byte, with seals that were reckoned apart from the program, digit by digit.
func TestByHand(t *testing.T) {
	const zeros = "\x00\x00\x00\x00\x00\x00\x00\x00\x00"
	for _, r := range []struct {
		s    super.Super
		want string
	}{
		{super.Super{Gen: 1, A: at(5, 3, 1)},
			"WSUP\x00\x00\x00\x01\x05\x03\x01\x00\x00\x00\x00\x00\x00\x00\x00" + zeros + "\x3C\x45\x6B\xA2"},
		{super.Super{Gen: 258, A: at(6, 5, 4), Epoch: 3, Out: 5},
			"WSUP\x00\x00\x01\x02\x06\x05\x04\x00\x00\x00\x00\x00\x00\x03\x05" + zeros + "\xD0\xAD\x40\xB0"},
		{super.Super{Gen: 2147483647, A: at(6, 8, 4), Epoch: 65535, Out: 255},
			"WSUP\x7F\xFF\xFF\xFF\x06\x08\x04\x00\x00\x00\x00\x00\xFF\xFF\xFF" + zeros + "\x4D\xB7\x78\xFF"},
		{super.Super{Gen: 16909060, A: at(5, 3, 1), B: at(6, 4, 2), Running: true, Window: 7, Epoch: 1286, Out: 9},
			"WSUP\x01\x02\x03\x04\x05\x03\x01\x06\x04\x02\x01\x07\x05\x06\x09" + zeros + "\xBE\x0C\x5A\xB0"},
		{super.Super{Gen: 1, A: at(5, 3, 1), B: at(5, 3, 2), Running: true},
			"WSUP\x00\x00\x00\x01\x05\x03\x01\x05\x03\x02\x01\x00\x00\x00\x00" + zeros + "\x91\x3C\x7F\xC7"},
		{super.Super{Gen: 2147483647, A: at(6, 7, 4), B: at(6, 8, 4), Running: true, Window: 16, Epoch: 65535, Out: 255},
			"WSUP\x7F\xFF\xFF\xFF\x06\x07\x04\x06\x08\x04\x01\x10\xFF\xFF\xFF" + zeros + "\x37\x30\x95\xB0"},
		{super.Super{Gen: 1000000, A: at(5, 4, 2), B: at(5, 8, 1), Running: true, Window: 10, Epoch: 256, Out: 128},
			"WSUP\x00\x0F\x42\x40\x05\x04\x02\x05\x08\x01\x01\x0A\x01\x00\x80" + zeros + "\x6D\xE5\x48\x57"},
	} {
		stands(t, r.s, []byte(r.want))
	}
}

// P9.1: each geometry alone; each pair of them is the one an array has and the one it goes to, or can't be.
func TestGeometries(t *testing.T) {
	if n := len(good()); n != 33 {
		t.Fatalf("%d geometries", n)
	}
	for _, a := range good() {
		s := still()
		s.A = a
		passes(t, s)
		for _, b := range good() {
			s := underway()
			s.A, s.B = a, b
			if can(a, b) {
				passes(t, s)
			} else {
				refused(t, s)
			}
		}
	}
}

// P9.1: each Gen about an edge of its bytes, each Window, many an Epoch, each Out, running and not.
func TestNumbers(t *testing.T) {
	for _, s := range []super.Super{still(), underway()} {
		r := s
		for _, r.Gen = range []int{1, 2, 255, 256, 257, 65535, 65536, 1<<24 - 1, 1 << 24, 1<<31 - 2, 1<<31 - 1} {
			passes(t, r)
		}
		r = s
		for r.Out = range 256 {
			passes(t, r)
		}
		r = s
		for _, r.Epoch = range []int{0, 1, 255, 256, 257, 511, 512, 32767, 32768, 65534, 65535} {
			passes(t, r)
		}
		for r.Epoch = 0; r.Epoch < 1<<16; r.Epoch += 101 {
			passes(t, r)
		}
	}
	r := underway()
	for r.Window = range api.Rows + 1 {
		passes(t, r)
	}
}

// P9.1, the edges: all fields at their least, and all at their greatest; targets that just can be.
func TestEdges(t *testing.T) {
	passes(t, super.Super{Gen: 1, A: at(5, 3, 1)})
	passes(t, super.Super{Gen: 1<<31 - 1, A: at(6, 8, 4), Epoch: 65535, Out: 255})
	for _, r := range []struct{ a, b api.Geom }{
		{at(5, 3, 1), at(5, 3, 2)}, {at(5, 3, 4), at(5, 3, 1)}, // another chunk alone, greater or smaller
		{at(6, 8, 1), at(6, 8, 4)}, {at(6, 8, 2), at(6, 8, 1)}, // on as many disks as there can be
		{at(5, 3, 1), at(5, 4, 1)}, {at(6, 7, 4), at(6, 8, 4)}, // a disk more alone
		{at(5, 3, 1), at(6, 4, 1)}, {at(5, 7, 2), at(6, 8, 2)}, // a higher level, and just as wide
		{at(5, 3, 1), at(6, 8, 4)}, // the farthest
	} {
		for _, window := range []int{0, api.Rows} {
			passes(t, super.Super{Gen: 1, A: r.a, B: r.b, Running: true, Window: window})
			passes(t, super.Super{Gen: 1<<31 - 1, A: r.a, B: r.b, Running: true, Window: window, Epoch: 65535, Out: 255})
		}
	}
}

// P9.1, wrong inputs: each number below its least, and past its greatest.
func TestWrongNumbers(t *testing.T) {
	for _, s := range []super.Super{still(), underway()} {
		passes(t, s)
		r := s
		for _, r.Gen = range append([]int{0, 1 << 31, 1<<31 + 1, 1<<32 - 1}, great...) {
			refused(t, r)
		}
		r = s
		for _, r.Epoch = range append([]int{65536, 65537, 1<<17 + 5, 1<<31 - 1}, great...) {
			refused(t, r)
		}
		r = s
		for _, r.Out = range append([]int{256, 257, 512, 65536, 1<<31 - 1}, great...) {
			refused(t, r)
		}
		r = s
		for _, r.Window = range append([]int{api.Rows + 1, 255, 256, 256 + 7, 65536, 1<<31 - 1}, great...) {
			refused(t, r)
		}
	}
}

// P9.1, wrong inputs: a geometry, or a target, that may not be.
func TestWrongGeometries(t *testing.T) {
	for _, g := range bad() {
		s := still()
		s.A = g
		refused(t, s)
		s = underway()
		s.A = g
		refused(t, s)
		s.B = g
		refused(t, s)
		s = underway()
		s.B = g
		refused(t, s)
	}
}

// P9.1, wrong inputs: a target that may be, but that the geometry can't become.
func TestWrongTargets(t *testing.T) {
	for i, r := range []struct{ a, b api.Geom }{
		{at(5, 3, 1), at(5, 3, 1)}, {at(6, 8, 4), at(6, 8, 4)}, // alike
		{at(5, 4, 1), at(5, 3, 1)}, {at(6, 8, 1), at(6, 7, 4)}, // a disk fewer
		{at(6, 5, 1), at(5, 5, 1)}, {at(6, 4, 1), at(5, 8, 1)}, // a lower level
		{at(5, 4, 1), at(6, 4, 1)}, {at(5, 8, 2), at(6, 8, 4)}, // not as wide
	} {
		s := underway()
		s.A, s.B = r.a, r.b
		if !may(r.a) || !may(r.b) {
			t.Error(i, "no geometry")
		}
		refused(t, s)
	}
}

// P9.1, wrong inputs: not running, and yet a target (one that could be, too) or a window.
func TestStillWithTarget(t *testing.T) {
	for _, g := range append(good(), bad()...) {
		s := still()
		if s.B = g; g != (api.Geom{}) {
			refused(t, s)
		}
	}
	for _, g := range []api.Geom{{Level: 5}, {Disks: 3}, {Chunk: 1}, {Level: -1}, {Disks: 256}, {Chunk: math.MinInt}} {
		s := still()
		s.B = g
		refused(t, s)
	}
	s := still()
	for s.Window = 1; s.Window <= 17; s.Window++ {
		refused(t, s)
	}
	for _, s.Window = range append([]int{255, 256, 65536}, great...) {
		refused(t, s)
	}
	s = underway()
	s.Running = false
	refused(t, s)
	s.Window = 0
	refused(t, s)
	s.B = api.Geom{}
	passes(t, s)
	s.Running = true
	refused(t, s)
}

// P9.1: Supers that differ in one field alone have sectors that differ.
func TestOneField(t *testing.T) {
	base := underway()
	l := []super.Super{base}
	for _, change := range []func(*super.Super){
		func(s *super.Super) { s.Gen++ },
		func(s *super.Super) { s.Gen += 1 << 8 },
		func(s *super.Super) { s.Gen += 1 << 16 },
		func(s *super.Super) { s.Gen += 1 << 24 },
		func(s *super.Super) { s.A.Level = 6; s.A.Disks = 4 },
		func(s *super.Super) { s.A.Disks++ },
		func(s *super.Super) { s.A.Chunk = 1 },
		func(s *super.Super) { s.B.Level = 5 },
		func(s *super.Super) { s.B.Disks++ },
		func(s *super.Super) { s.B.Chunk = 1 },
		func(s *super.Super) { s.Window++ },
		func(s *super.Super) { s.Epoch++ },
		func(s *super.Super) { s.Epoch += 1 << 8 },
		func(s *super.Super) { s.Out++ },
		func(s *super.Super) { s.Running, s.B, s.Window = false, api.Geom{}, 0 },
	} {
		s := base
		change(&s)
		l = append(l, s)
	}
	for i, s := range l {
		for j, r := range l[:i] {
			if s == r || bytes.Equal(encode(t, s), encode(t, r)) {
				t.Errorf("%d, %d: %v, %v", i, j, s, r)
			}
		}
	}
}

// P9.1, wrong inputs: a sector with one byte turned, whatever it becomes, the zeros' and the seal's too.
func TestOneByteTurned(t *testing.T) {
	for _, s := range []super.Super{still(), underway(), {Gen: 1, A: at(5, 3, 1)}} {
		b := encode(t, s)
		for i := range b {
			was := b[i]
			for c := range 256 {
				if b[i] = byte(c); b[i] != was {
					formless(t, "turned", b)
				}
			}
			b[i] = was
		}
		stands(t, s, b)
	}
}

// P9.1: a sector with each byte set to each number, and sealed again: it is decoded where the chapter's words allow it,
// and no other.
func TestEachByteSealed(t *testing.T) {
	for _, s := range []super.Super{still(), underway(), {Gen: 1, A: at(5, 3, 1)}, {Gen: 1, A: at(5, 3, 1), B: at(6, 4, 1), Running: true}} {
		for i := range 28 {
			for c := range 256 {
				b := encode(t, s)
				b[i] = byte(c)
				seal(b)
				if want, ok := read(b); ok {
					stands(t, want, b)
				} else {
					formless(t, "sealed", b)
				}
			}
		}
	}
}

// read is the Super of a sector that is sealed rightly; false: it is none.
func read(b []byte) (super.Super, bool) {
	s := super.Super{
		Gen:     int(binary.BigEndian.Uint32(b[4:8])),
		A:       at(int(b[8]), int(b[9]), int(b[10])),
		B:       at(int(b[11]), int(b[12]), int(b[13])),
		Running: b[14] == 1,
		Window:  int(b[15]),
		Epoch:   int(binary.BigEndian.Uint16(b[16:18])),
		Out:     int(b[18]),
	}
	ok := string(b[:4]) == "WSUP" && s.Gen > 0 && s.Gen <= math.MaxInt32 && may(s.A)
	for _, x := range b[19:28] {
		ok = ok && x == 0
	}
	switch b[14] {
	case 0:
		ok = ok && s.B == api.Geom{} && s.Window == 0
	case 1:
		ok = ok && can(s.A, s.B) && s.Window <= 16
	default:
		ok = false
	}
	return s, ok
}

// P9.1, wrong inputs: sectors that are sealed rightly, named one by one, which no Super has.
func TestSealedAndNone(t *testing.T) {
	for _, r := range []struct{ name, begin string }{
		{"nothing", ""},
		{"the word alone", "WSUP"},
		{"another word", "WSUQ\x00\x00\x00\x01\x05\x03\x01"},
		{"a word in small letters", "wsup\x00\x00\x00\x01\x05\x03\x01"},
		{"no word", "\x00\x00\x00\x00\x00\x00\x00\x01\x05\x03\x01"},
		{"Gen 0", "WSUP\x00\x00\x00\x00\x05\x03\x01"},
		{"Gen 2^31", "WSUP\x80\x00\x00\x00\x05\x03\x01"},
		{"Gen 2^32 - 1", "WSUP\xFF\xFF\xFF\xFF\x05\x03\x01"},
		{"Gen with the smallest byte first", "WSUP\x01\x00\x00\x80\x04\x03\x01"},
		{"level 4", "WSUP\x00\x00\x00\x01\x04\x03\x01"},
		{"2 disks", "WSUP\x00\x00\x00\x01\x05\x02\x01"},
		{"9 disks", "WSUP\x00\x00\x00\x01\x05\x09\x01"},
		{"level 6 on 3 disks", "WSUP\x00\x00\x00\x01\x06\x03\x01"},
		{"chunk 3", "WSUP\x00\x00\x00\x01\x05\x03\x03"},
		{"a target, not running", "WSUP\x00\x00\x00\x01\x05\x03\x01\x05\x04\x01"},
		{"a chunk of a target, not running", "WSUP\x00\x00\x00\x01\x05\x03\x01\x00\x00\x01"},
		{"a window, not running", "WSUP\x00\x00\x00\x01\x05\x03\x01\x00\x00\x00\x00\x01"},
		{"running, no target", "WSUP\x00\x00\x00\x01\x05\x03\x01\x00\x00\x00\x01"},
		{"running, the same target", "WSUP\x00\x00\x00\x01\x05\x03\x01\x05\x03\x01\x01"},
		{"running, a target that may not be", "WSUP\x00\x00\x00\x01\x05\x03\x01\x05\x09\x01\x01"},
		{"running, a target that can't be", "WSUP\x00\x00\x00\x01\x05\x04\x01\x06\x04\x01\x01"},
		{"running, window 17", "WSUP\x00\x00\x00\x01\x05\x03\x01\x05\x04\x01\x01\x11"},
		{"running, window 255", "WSUP\x00\x00\x00\x01\x05\x03\x01\x05\x04\x01\x01\xFF"},
		{"running is 2, a target", "WSUP\x00\x00\x00\x01\x05\x03\x01\x05\x04\x01\x02"},
		{"running is 2, no target", "WSUP\x00\x00\x00\x01\x05\x03\x01\x00\x00\x00\x02"},
		{"running is 255", "WSUP\x00\x00\x00\x01\x05\x03\x01\x05\x04\x01\xFF"},
		{"the first of the zeros", "WSUP\x00\x00\x00\x01\x05\x03\x01\x00\x00\x00\x00\x00\x00\x00\x00\x01"},
		{"the last of the zeros", "WSUP\x00\x00\x00\x01\x05\x03\x01\x00\x00\x00\x00\x00\x00\x00\x00\x00\x00\x00\x00\x00\x00\x00\x00\x80"},
	} {
		formless(t, r.name, sealed(r.begin))
	}
	stands(t, super.Super{Gen: 1, A: at(5, 3, 1)}, sealed("WSUP\x00\x00\x00\x01\x05\x03\x01"))
}

// P9.1, wrong inputs: a seal that is right but for something beside the sector, or for the order of its bytes; or none.
func TestWrongSeal(t *testing.T) {
	b := encode(t, underway())
	table := crc32.MakeTable(crc32.Castagnoli)
	for i, x := range []uint32{0, crc32.Checksum(append(slices.Clone(b[:28]), 0), table), crc32.ChecksumIEEE(b[:28]), ^crc32.Checksum(b[:28], table), crc32.Checksum(b[:19], table)} {
		c := slices.Clone(b)
		binary.BigEndian.PutUint32(c[28:], x)
		formless(t, "seal "+string(rune('0'+i)), c)
	}
	c := slices.Clone(b)
	slices.Reverse(c[28:])
	formless(t, "turned round", c)
}

// P9.1, R4, wrong inputs: bytes too few, too many, none; what a sector lacks does not stand behind its length.
func TestLengths(t *testing.T) {
	formless(t, "nil", nil)
	formless(t, "empty", []byte{})
	b := encode(t, underway())
	for n := range 32 {
		formless(t, "short", b[:n])
		formless(t, "short, zeros", make([]byte, n))
		formless(t, "without its beginning", b[32-n:])
	}
	for _, n := range []int{1, 2, 4, 31, 32, 33, 64, 1000} {
		formless(t, "long", append(slices.Clone(b), make([]byte, n)...))
		formless(t, "behind others", append(make([]byte, n), b...))
	}
	formless(t, "twice", append(slices.Clone(b), b...))
	formless(t, "a sector of zeros", make([]byte, 32))
	formless(t, "a sector of 255", bytes.Repeat([]byte{255}, 32))
	long := append(slices.Clone(b), 1, 2, 3)
	stands(t, underway(), long[:32])
}

// R4: Decode neither changes nor keeps what it is handed, nor reads or writes behind its length.
func TestHandedIn(t *testing.T) {
	all := append(encode(t, underway()), 1, 2, 3, 4)
	was := slices.Clone(all)
	got, e := super.Decode(all[:32])
	super.Decode(all)
	super.Decode(all[:31])
	if !bytes.Equal(all, was) {
		t.Errorf("changed: %x", all)
	}
	clear(all)
	if got != underway() || e != api.OK {
		t.Errorf("%v, %d", got, e)
	}
}

// R4: Encode hands out new memory: to change it, or to write behind its length, changes no other answer.
func TestHandedOut(t *testing.T) {
	a, b := encode(t, underway()), encode(t, underway())
	want := slices.Clone(b)
	_ = append(a, 1, 2, 3, 4)
	for i := range a {
		a[i] ^= 255
	}
	if !bytes.Equal(b, want) || !bytes.Equal(encode(t, underway()), want) {
		t.Error("two answers share memory")
	}
}

// R5: the same arguments have the same answers, whatever was asked between, errors too.
func TestAgain(t *testing.T) {
	l := []super.Super{still(), underway(), {Gen: 1<<31 - 1, A: at(6, 8, 4), Epoch: 65535, Out: 255}, {Gen: 1, A: at(5, 3, 1)}}
	for range 2 {
		for _, s := range l {
			passes(t, s)
			refused(t, super.Super{})
			formless(t, "between", []byte("WSUP"))
		}
		slices.Reverse(l)
	}
}
