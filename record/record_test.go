package record_test

import (
	"bytes"
	"encoding/binary"
	"hash/crc32"
	"math"
	"slices"
	"testing"

	"wattle/api"
	"wattle/record"
)

// greatest is the greatest Seq that there may be.
const greatest = 1<<31 - 1

// zeros is what the first sector of a Record without Items has between its count and its seal.
const zeros = "\x00\x00\x00\x00\x00\x00\x00\x00\x00\x00\x00\x00\x00\x00\x00\x00\x00\x00\x00"

// far is numbers far from any that a place may have; some are in their low digits as those that it may have.
var far = []int{256, 256 + 7, 256 + 40, 512, 65536 + 40, 1 << 31, 1<<32 + 3, 1<<32 + 40, math.MaxInt - 1, math.MaxInt, -2, -200, -216, -249, -256, -256 + 40, -1 << 31, 3 - 1<<32, math.MinInt, math.MinInt + 3, math.MinInt + 40}

// full is a sector of one byte.
func full(c byte) []byte {
	return bytes.Repeat([]byte{c}, api.Sector)
}

// mixed is n bytes, most of them unlike their neighbours, other ones for each seed.
func mixed(seed, n int) []byte {
	b := make([]byte, n)
	x := uint32(seed)*2654435761 + 12345
	for i := range b {
		x = x*1664525 + 1013904223
		b[i] = byte(x >> 24)
	}
	return b
}

// to is an Item to that place, with bytes of its own for each place.
func to(disk, at int) record.Item {
	return record.Item{Disk: disk, At: at, Data: mixed(disk*64+at, api.Sector)}
}

// with is an Item to a place that may be, with these bytes.
func with(b []byte) record.Item {
	return record.Item{Disk: 3, At: 40, Data: b}
}

// of is the Record of that number, with these Items.
func of(seq int, items ...record.Item) record.Record {
	return record.Record{Seq: seq, Items: items}
}

// some is a Record of each number of Items.
func some() []record.Record {
	return []record.Record{
		of(0x01020304),
		of(0x05060708, to(5, 43)),
		of(0x090A0B0C, to(6, 50), to(1, 38)),
		of(0x0D0E0F10, to(4, 47), to(2, 37), to(0, 41)),
	}
}

// clone is a Record that shares no memory with r.
func clone(r record.Record) record.Record {
	r.Items = slices.Clone(r.Items)
	for i := range r.Items {
		r.Items[i].Data = slices.Clone(r.Items[i].Data)
	}
	return r
}

// copied is sectors that share no memory with these.
func copied(parts [][]byte) [][]byte {
	l := make([][]byte, len(parts))
	for i, x := range parts {
		l[i] = slices.Clone(x)
	}
	return l
}

// same tells whether the Records are one and the same.
func same(a, b record.Record) bool {
	return a.Seq == b.Seq && slices.EqualFunc(a.Items, b.Items, func(x, y record.Item) bool {
		return x.Disk == y.Disk && x.At == y.At && bytes.Equal(x.Data, y.Data)
	})
}

// alike tells whether these are the same sectors.
func alike(a, b [][]byte) bool {
	return slices.EqualFunc(a, b, bytes.Equal)
}

// seal sets the first sector's last four bytes as its seal with the others, by another's work than package crc.
func seal(parts [][]byte) [][]byte {
	all := append(slices.Clone(parts[0][:28]), bytes.Join(parts[1:], nil)...)
	binary.BigEndian.PutUint32(parts[0][28:], crc32.Checksum(all, crc32.MakeTable(crc32.Castagnoli)))
	return parts
}

// sealed is four sectors: the first with this beginning, zeros behind it, and its seal; then these, and sectors of zeros.
func sealed(begin string, data ...[]byte) [][]byte {
	parts := [][]byte{full(0), full(0), full(0), full(0)}
	copy(parts[0], begin)
	for i, x := range data {
		copy(parts[1+i], x)
	}
	return seal(parts)
}

// sectorsOf is the sectors of a Record that may be, by the chapter's words.
func sectorsOf(r record.Record) [][]byte {
	b := []byte("WREC")
	b = binary.BigEndian.AppendUint32(b, uint32(r.Seq))
	b = append(b, byte(len(r.Items)))
	var data [][]byte
	for _, x := range r.Items {
		b = append(b, byte(x.Disk), byte(x.At))
		data = append(data, x.Data)
	}
	return sealed(string(b), data...)
}

// read is the Record of four sectors that are sealed rightly, by the chapter's words; false: it is none.
func read(parts [][]byte) (record.Record, bool) {
	b := parts[0]
	r := of(int(binary.BigEndian.Uint32(b[4:8])))
	if string(b[:4]) != "WREC" || r.Seq == 0 || r.Seq > math.MaxInt32 || b[8] > 3 {
		return record.Record{}, false
	}
	n := int(b[8])
	taken := map[[2]byte]int{}
	for i := range n {
		disk, at := b[9+2*i], b[10+2*i]
		if disk > 7 || at < 36 || at > 51 {
			return record.Record{}, false
		}
		taken[[2]byte{disk, at}]++
		r.Items = append(r.Items, record.Item{Disk: int(disk), At: int(at), Data: parts[1+i]})
	}
	rest := append(slices.Clone(b[9+2*n:28]), bytes.Join(parts[1+n:], nil)...)
	return r, len(taken) == n && len(bytes.Trim(rest, "\x00")) == 0
}

// encode is the Record's sectors, which it must have.
func encode(t *testing.T, r record.Record) [][]byte {
	t.Helper()
	parts, e := record.Encode(r)
	if e != api.OK || len(parts) != 4 {
		t.Fatalf("Encode(%v): %x, %d", r, parts, e)
	}
	return parts
}

// stands fails the test unless there may be such a Record, its sectors are these, and they are decoded as it.
func stands(t *testing.T, r record.Record, want [][]byte) {
	t.Helper()
	if e := record.Check(r); e != api.OK {
		t.Errorf("Check(%v): %d", r, e)
	}
	if parts, e := record.Encode(r); e != api.OK || !alike(parts, want) {
		t.Errorf("Encode(%v): %x, %d, not %x", r, parts, e, want)
	}
	if got, e := record.Decode(want...); e != api.OK || !same(got, r) {
		t.Errorf("Decode(%x): %v, %d, not %v", want, got, e, r)
	}
}

// passes fails the test unless there may be such a Record, and its sectors are decoded as it.
func passes(t *testing.T, r record.Record) {
	t.Helper()
	stands(t, r, sectorsOf(r))
}

// refused fails the test unless there may be no such Record, with nothing beside the error.
func refused(t *testing.T, r record.Record) {
	t.Helper()
	if e := record.Check(r); e != api.ErrArg {
		t.Errorf("Check(%v): %d", r, e)
	}
	if parts, e := record.Encode(r); e != api.ErrArg || len(parts) != 0 {
		t.Errorf("Encode(%v): %x, %d", r, parts, e)
	}
}

// formless fails the test unless these are the sectors of no Record, with nothing beside the error.
func formless(t *testing.T, name string, parts ...[]byte) {
	t.Helper()
	if r, e := record.Decode(parts...); e != api.ErrForm || r.Seq != 0 || len(r.Items) != 0 {
		t.Errorf("%s: Decode(%x): %v, %d", name, parts, r, e)
	}
}

// P11.1: the chapter's example.
func TestExample(t *testing.T) {
	parts, e := record.Encode(of(1))
	if e != api.OK || len(parts) != 4 {
		t.Errorf("%x, %d", parts, e)
	}
	for i, x := range parts {
		if len(x) != 32 {
			t.Errorf("%d: %x", i, x)
		}
	}
	passes(t, of(1))
}

// P11.1: sectors by hand, byte by byte, with seals that were reckoned apart from the program, digit by digit.
func TestByHand(t *testing.T) {
	rising, falling, nought := full(0), full(0), full(0)
	for i := range rising {
		rising[i], falling[i] = byte(1+i), byte(255-i)
	}
	item := func(disk, at int, data []byte) record.Item { return record.Item{Disk: disk, At: at, Data: data} }
	for _, r := range []struct {
		r     record.Record
		first string
		data  [3][]byte
	}{
		{of(1), "WREC\x00\x00\x00\x01\x00" + zeros + "\x99\xF0\x9D\xF9", [3][]byte{nought, nought, nought}},
		{of(16909060), "WREC\x01\x02\x03\x04\x00" + zeros + "\x92\xA6\x98\x86", [3][]byte{nought, nought, nought}},
		{of(2147483647), "WREC\x7F\xFF\xFF\xFF\x00" + zeros + "\x85\xEE\xED\x90", [3][]byte{nought, nought, nought}},
		{of(258, item(0, 36, rising)), "WREC\x00\x00\x01\x02\x01\x00\x24" + zeros[2:] + "\xA6\xB9\x1C\x47", [3][]byte{rising, nought, nought}},
		{of(1, item(3, 40, nought)), "WREC\x00\x00\x00\x01\x01\x03\x28" + zeros[2:] + "\xBF\x26\xA8\x7F", [3][]byte{nought, nought, nought}},
		{of(16909060, item(7, 36, rising), item(0, 51, full(0xA5))),
			"WREC\x01\x02\x03\x04\x02\x07\x24\x00\x33" + zeros[4:] + "\x6F\xA8\x36\xDC", [3][]byte{rising, full(0xA5), nought}},
		{of(2147483647, item(2, 44, rising), item(5, 37, full(0xA5)), item(7, 51, falling)),
			"WREC\x7F\xFF\xFF\xFF\x03\x02\x2C\x05\x25\x07\x33" + zeros[6:] + "\x1E\x83\x08\x44", [3][]byte{rising, full(0xA5), falling}},
		{of(1000000, item(0, 36, falling), item(0, 37, falling), item(1, 36, falling)),
			"WREC\x00\x0F\x42\x40\x03\x00\x24\x00\x25\x01\x24" + zeros[6:] + "\xF3\xB7\x5F\x64", [3][]byte{falling, falling, falling}},
	} {
		stands(t, r.r, [][]byte{[]byte(r.first), r.data[0], r.data[1], r.data[2]})
	}
}

// P11.1: each number about an edge of its bytes, of Records of each number of Items.
func TestNumbers(t *testing.T) {
	for _, r := range some() {
		for _, r.Seq = range []int{1, 2, 127, 128, 255, 256, 257, 65535, 65536, 1<<24 - 1, 1 << 24, 1<<24 + 1, 1<<30 + 5, greatest - 1, greatest} {
			passes(t, r)
		}
	}
}

// P11.1: each place there is, as that of the one Item, and of each of three.
func TestPlaces(t *testing.T) {
	for disk := range api.MaxDisks {
		for at := api.Data; at < api.Size; at++ {
			passes(t, of(at, to(disk, at)))
			for i := range 3 {
				r := of(9, to((disk+1)%8, at), to(disk, api.Data+(at-api.Data+1)%16), to((disk+7)%8, at))
				r.Items[i] = to(disk, at)
				passes(t, r)
			}
		}
	}
}

// P11.1, the edges: two Items on one disk at two places, and at the same At of two disks: any two places that differ are
// two; one and the same, with the same Data or other, is wrong. Beside a third one too.
func TestPairs(t *testing.T) {
	for x := range 8 * 16 {
		for y := range 8 * 16 {
			a, b := to(x/16, 36+x%16), to(y/16, 36+y%16)
			if x != y {
				passes(t, of(1+x, a, b))
				continue
			}
			refused(t, of(1+x, a, b))
			b.Data = full(byte(x))
			refused(t, of(1+x, a, b))
			c := to((x/16+1)%8, 36+x%16)
			for _, l := range [][]record.Item{{a, b, c}, {a, c, b}, {c, a, b}, {a, b, a}} {
				refused(t, of(1+x, l...))
			}
			b.At = 36 + (x+1)%16
			for _, l := range [][]record.Item{{a, b, c}, {a, c, b}, {c, a, b}} {
				passes(t, of(1+x, l...))
			}
		}
	}
}

// P11.1: Items may have the same Data, and any: zeros too.
func TestData(t *testing.T) {
	for c := range 256 {
		x := full(byte(c))
		passes(t, of(7, with(x)))
		passes(t, of(7, record.Item{Disk: 0, At: 51, Data: x}, record.Item{Disk: 7, At: 36, Data: x}))
		passes(t, of(7, with(full(0)), record.Item{Disk: 0, At: 51, Data: full(0)}, record.Item{Disk: 7, At: 36, Data: x}))
	}
	for seed := range 200 {
		l := []record.Item{with(mixed(seed, 32)), {Disk: seed % 8, At: 45, Data: mixed(seed+1000, 32)}, {Disk: seed % 8, At: 46, Data: mixed(seed+2000, 32)}}
		for n := range 4 {
			passes(t, of(1+seed, l[:n]...))
		}
	}
}

// P11.1, the edges: all at their least, and all at their greatest.
func TestEdges(t *testing.T) {
	for _, seq := range []int{1, greatest} {
		passes(t, of(seq))
		for _, disk := range []int{0, api.MaxDisks - 1} {
			for _, at := range []int{api.Data, api.Size - 1} {
				passes(t, of(seq, record.Item{Disk: disk, At: at, Data: full(0)}))
				passes(t, of(seq, record.Item{Disk: disk, At: at, Data: full(255)}))
				passes(t, of(seq, to(disk, at), to(7-disk, at), to(disk, 87-at)))
			}
		}
	}
}

// P11.1: Records that are not alike have sectors that are not: in one field alone, or in the order of the Items alone.
func TestUnlike(t *testing.T) {
	a, b, c := to(4, 47), to(2, 37), to(0, 41)
	disk, at, data := a, a, a
	disk.Disk, at.At, data.Data = 5, 48, full(9)
	swapped, other := a, b
	swapped.Data, other.Data = b.Data, a.Data
	l := []record.Record{
		of(9), of(9 + 1<<8), of(9 + 1<<16), of(9 + 1<<24), of(10),
		of(9, a), of(10, a), of(9, b), of(9, c), of(9, disk), of(9, at), of(9, data), of(9, with(full(0))),
		of(9, a, b), of(9, b, a), of(9, a, c), of(9, swapped, other), of(9, other, swapped), of(9, a, with(full(0))),
		of(9, a, b, c), of(9, a, c, b), of(9, b, a, c), of(9, b, c, a), of(9, c, a, b), of(9, c, b, a),
		of(9, disk, b, c), of(9, b, disk, c), of(9, b, c, disk), of(9, at, b, c), of(9, b, c, at), of(9, b, c, data), of(9, swapped, other, c),
	}
	for i, r := range l {
		passes(t, r)
		for j, s := range l[:i] {
			if x, y := encode(t, r), encode(t, s); alike(x, y) || bytes.Equal(x[0], y[0]) {
				t.Errorf("%d, %d: %v, %v", i, j, r, s)
			}
		}
	}
}

// P11.1, wrong inputs: each number below its least, and past its greatest, of Records of each number of Items.
func TestWrongNumbers(t *testing.T) {
	for _, r := range some() {
		for _, r.Seq = range []int{0, -1, -2, -256, -greatest, -1 << 31, -1<<31 - 1, 1 - 1<<32, 1 << 31, 1<<31 + 1, 1<<32 - 1, 1 << 32, 1<<32 + 1, 1<<33 + 7, math.MaxInt - 1, math.MaxInt, math.MinInt, math.MinInt + 1} {
			refused(t, r)
		}
	}
	refused(t, record.Record{})
}

// P11.1, wrong inputs: more than three Items, at places that are all unlike, or not.
func TestTooMany(t *testing.T) {
	var l []record.Item
	for x := range 8 * 16 {
		l = append(l, to(x/16, 36+x%16))
		r := of(9, l...)
		if len(l) <= 3 {
			passes(t, r)
		} else {
			refused(t, r)
		}
	}
	refused(t, of(9, slices.Repeat(l[:1], 4)...))
	refused(t, of(9, slices.Repeat(l, 2000)...))
	refused(t, of(9, make([]record.Item, 4)...))
}

// P11.1, wrong inputs: a Disk, an At just past its bounds on both sides, and far past them, of each of the Items.
func TestWrongPlaces(t *testing.T) {
	for _, r := range some() {
		for i := range r.Items {
			for _, disk := range append([]int{-1, 8, 9, 36, 255}, far...) {
				s := clone(r)
				s.Items[i].Disk = disk
				refused(t, s)
			}
			for _, at := range append([]int{-1, 0, 1, 2, 6, 7, 34, 35, 52, 53, 255}, far...) {
				s := clone(r)
				s.Items[i].At = at
				refused(t, s)
			}
			s := clone(r)
			s.Items[i].Disk, s.Items[i].At = s.Items[i].At, s.Items[i].Disk
			refused(t, s)
			s.Items[i].Disk, s.Items[i].At = -1, 35
			refused(t, s)
			s.Items[i] = record.Item{}
			refused(t, s)
		}
	}
}

// P11.1, wrong inputs: Data that is nil, shorter, longer than a sector, of each of the Items; what it lacks does not
// stand behind its length.
func TestWrongData(t *testing.T) {
	for _, r := range some() {
		for i := range r.Items {
			for n := range 100 {
				s := clone(r)
				if s.Items[i].Data = mixed(n, 200)[:n]; n == api.Sector {
					passes(t, s)
				} else {
					refused(t, s)
				}
			}
			for _, b := range [][]byte{nil, {}, make([]byte, 64), make([]byte, 1<<20)} {
				s := clone(r)
				s.Items[i].Data = b
				refused(t, s)
			}
		}
	}
}

// P11.1, wrong inputs: one byte of one of the four sectors turned, whatever it becomes, the zeros' and the seal's too.
func TestOneByteTurned(t *testing.T) {
	for _, r := range some() {
		parts := encode(t, r)
		for i, x := range parts {
			for at, was := range x {
				for c := range 256 {
					if x[at] = byte(c); x[at] != was {
						formless(t, "turned", parts...)
					}
				}
				x[at] = was
			}
			if !alike(parts, sectorsOf(r)) {
				t.Fatal("Decode has changed", i)
			}
		}
		stands(t, r, parts)
	}
}

// P11.1: four sectors with each byte set to each number, and sealed again: they are decoded where the chapter's words
// allow it, and no others.
func TestEachByteSealed(t *testing.T) {
	taken := 0
	for _, r := range append(some(), of(1, with(full(0))), of(1, to(3, 40), to(3, 41), to(4, 40))) {
		for at := range 4 * api.Sector {
			if at >= 28 && at < 32 {
				continue
			}
			for c := range 256 {
				parts := encode(t, r)
				parts[at/32][at%32] = byte(c)
				seal(parts)
				if want, ok := read(parts); ok {
					stands(t, want, parts)
					taken++
				} else {
					formless(t, "sealed", parts...)
				}
			}
		}
	}
	if taken < 10000 {
		t.Error("taken", taken)
	}
}

// P11.1, wrong inputs: sectors that are sealed rightly, named one by one, which no Record has.
func TestSealedAndNone(t *testing.T) {
	const one = "WREC\x00\x00\x00\x01"
	x := full(7)
	for _, r := range []struct {
		name, begin string
		data        [][]byte
	}{
		{"nothing", "", nil},
		{"the word alone", "WREC", nil},
		{"another word", "WRED\x00\x00\x00\x01", nil},
		{"another layer's word", "WSUP\x00\x00\x00\x01", nil},
		{"a word in small letters", "wrec\x00\x00\x00\x01", nil},
		{"no word", "\x00\x00\x00\x00\x00\x00\x00\x01", nil},
		{"Seq 0", "WREC\x00\x00\x00\x00", nil},
		{"Seq 0, an Item", "WREC\x00\x00\x00\x00\x01\x03\x28", [][]byte{x}},
		{"Seq 2^31", "WREC\x80\x00\x00\x00", nil},
		{"Seq 2^31 + 1, an Item", "WREC\x80\x00\x00\x01\x01\x03\x28", [][]byte{x}},
		{"Seq 2^32 - 1", "WREC\xFF\xFF\xFF\xFF", nil},
		{"a count of 4, three places", one + "\x04\x03\x28\x04\x28\x05\x28", [][]byte{x, x, x}},
		{"a count of 4, four places", one + "\x04\x03\x28\x04\x28\x05\x28\x06\x28", [][]byte{x, x, x}},
		{"a count of 5", one + "\x05\x03\x28\x04\x28\x05\x28\x06\x28\x07\x28", [][]byte{x, x, x}},
		{"a count of 9: as many places as there is room for", one + "\x09\x03\x28\x04\x28\x05\x28\x06\x28\x07\x28\x03\x29\x04\x29\x05\x29\x06\x29", [][]byte{x, x, x}},
		{"a count of 10: more than there is room for", one + "\x0A\x03\x28\x04\x28\x05\x28\x06\x28\x07\x28\x03\x29\x04\x29\x05\x29\x06\x29\x07", [][]byte{x, x, x}},
		{"a count of 12", one + "\x0C\x03\x28", [][]byte{x}},
		{"a count of 255", one + "\xFF\x03\x28\x04\x28\x05\x28", [][]byte{x, x, x}},
		{"a count of two bytes", one + "\x00\x01\x03\x28", [][]byte{x}},
		{"disk 8", one + "\x01\x08\x28", [][]byte{x}},
		{"disk 255", one + "\x01\xFF\x28", [][]byte{x}},
		{"disk 8, the last of three", one + "\x03\x03\x28\x04\x28\x08\x28", [][]byte{x, x, x}},
		{"at 0", one + "\x01\x03\x00", [][]byte{x}},
		{"at 35", one + "\x01\x03\x23", [][]byte{x}},
		{"at 52", one + "\x01\x03\x34", [][]byte{x}},
		{"at 255", one + "\x01\x03\xFF", [][]byte{x}},
		{"at 52, the second of two", one + "\x02\x03\x28\x04\x34", [][]byte{x, x}},
		{"at and disk for one another", one + "\x01\x28\x03", [][]byte{x}},
		{"two at one place", one + "\x02\x03\x28\x03\x28", [][]byte{x, full(8)}},
		{"two at one place, the same Data", one + "\x02\x03\x28\x03\x28", [][]byte{x, x}},
		{"the first and the last at one place", one + "\x03\x03\x28\x04\x28\x03\x28", [][]byte{x, x, x}},
		{"the last two at one place", one + "\x03\x04\x28\x03\x28\x03\x28", [][]byte{x, x, x}},
		{"a place past a count of none", one + "\x00\x03\x28", nil},
		{"a place past a count of one", one + "\x01\x03\x28\x04\x28", [][]byte{x}},
		{"the first of the zeros", one + "\x01\x03\x28\x01", [][]byte{x}},
		{"the last of the zeros", one + "\x01\x03\x28" + zeros[3:] + "\x80", [][]byte{x}},
		{"the last of the zeros, without Items", one + zeros + "\x80", nil},
		{"the first behind three Items", one + "\x03\x03\x28\x04\x28\x05\x28\x01", [][]byte{x, x, x}},
		{"Data past a count of none", one, [][]byte{x}},
		{"Data far past a count of none", one, [][]byte{full(0), full(0), x}},
		{"Data past a count of one", one + "\x01\x03\x28", [][]byte{x, x}},
		{"Data past a count of two", one + "\x02\x03\x28\x04\x28", [][]byte{x, x, x}},
		{"a last byte past a count of two", one + "\x02\x03\x28\x04\x28", [][]byte{x, x, append(make([]byte, 31), 1)}},
		{"Data one sector late", one + "\x01\x03\x28", [][]byte{full(0), x}},
	} {
		formless(t, r.name, sealed(r.begin, r.data...)...)
	}
	stands(t, of(1), sealed(one))
	stands(t, of(1, with(x)), sealed(one+"\x01\x03\x28", x))
}

// P11.1, wrong inputs: a seal that is of other bytes, or in another order, or none.
func TestWrongSeal(t *testing.T) {
	table := crc32.MakeTable(crc32.Castagnoli)
	r := of(0x01020304, to(4, 47), to(2, 37))
	parts := encode(t, r)
	head, all := parts[0][:28], bytes.Join(parts[1:], nil)
	for _, x := range []struct {
		name string
		sum  uint32
	}{
		{"none", 0},
		{"without the others", crc32.Checksum(head, table)},
		{"without the sector of zeros", crc32.Checksum(append(slices.Clone(head), all[:64]...), table)},
		{"the others first", crc32.Checksum(append(slices.Clone(all), head...), table)},
		{"of the others alone", crc32.Checksum(all, table)},
		{"another polynomial", crc32.ChecksumIEEE(append(slices.Clone(head), all...))},
		{"not turned", ^crc32.Checksum(append(slices.Clone(head), all...), table)},
	} {
		c := copied(parts)
		binary.BigEndian.PutUint32(c[0][28:], x.sum)
		formless(t, x.name, c...)
	}
	c := copied(parts)
	slices.Reverse(c[0][28:])
	formless(t, "turned round", c...)
	c = copied(parts)
	c[1], c[2] = c[2], c[1]
	formless(t, "the Data for one another", c...)
	c = copied(parts)
	copy(c[0], encode(t, of(0x01020304, to(4, 47), to(2, 38)))[0])
	formless(t, "another's first sector", c...)
}

// P11.1, wrong inputs: parts too few, too many, none; in another order; all in one.
func TestPartsTooFewOrMany(t *testing.T) {
	formless(t, "none")
	formless(t, "nil", [][]byte(nil)...)
	for _, r := range some() {
		parts := encode(t, r)
		for n := range 4 {
			formless(t, "few", parts[:n]...)
			formless(t, "without their beginning", parts[n+1:]...)
			formless(t, "without one", slices.Delete(copied(parts), n, n+1)...)
			formless(t, "nils", make([][]byte, n+1)...)
		}
		for _, x := range [][]byte{nil, {}, full(0), full(1), parts[3]} {
			formless(t, "five", append(copied(parts), x)...)
			formless(t, "five, one ahead", append([][]byte{x}, parts...)...)
		}
		formless(t, "twice", append(copied(parts), parts...)...)
		formless(t, "all in one", bytes.Join(parts, nil))
		formless(t, "all in the first", bytes.Join(parts, nil), nil, nil, nil)
		c := copied(parts)
		slices.Reverse(c)
		formless(t, "turned round", c...)
	}
	formless(t, "four sectors of zeros", full(0), full(0), full(0), full(0))
	formless(t, "four sectors of 255", full(255), full(255), full(255), full(255))
	formless(t, "very many", make([][]byte, 100000)...)
}

// P11.1, wrong inputs: parts one of which is nil, shorter, longer; sealed as they are, too.
func TestPartsShortOrLong(t *testing.T) {
	for _, r := range some() {
		parts := encode(t, r)
		for i := range parts {
			for _, n := range []int{0, 1, 4, 8, 9, 10, 15, 16, 27, 28, 31, 33, 64, 1000} {
				c := copied(parts)
				long := append(c[i], make([]byte, 1000)...)
				if c[i] = long[:n]; i > 0 {
					seal(c)
				}
				formless(t, "cut, or with zeros", c...)
			}
			c := copied(parts)
			if c[i] = nil; i > 0 {
				seal(c)
			}
			formless(t, "nil", c...)
			c = copied(parts)
			c[i] = append(full(0), c[i]...)
			formless(t, "behind zeros", c...)
			if i < 3 { // all the bytes, cut elsewhere
				c = copied(parts)
				c[i], c[i+1] = c[i][:31], append(c[i][31:32:32], c[i+1]...)
				formless(t, "one byte over", c...)
			}
		}
	}
}

// R4: nil and the empty list of Items are the same.
func TestNilAndEmpty(t *testing.T) {
	for _, l := range [][]record.Item{nil, {}, make([]record.Item, 0, 9)} {
		stands(t, record.Record{Seq: 5, Items: l}, sectorsOf(of(5)))
	}
}

// R4: what is handed to Check and Encode is neither changed nor kept, and nothing behind its length is read or written.
func TestRecordHandedIn(t *testing.T) {
	memory := mixed(1, 200)
	was := slices.Clone(memory)
	l := []record.Item{{Disk: 1, At: 40, Data: memory[:32]}, {Disk: 2, At: 40, Data: memory[40:72]}, {Disk: 3, At: 40, Data: memory[32:64]}, {Disk: 4, At: 40, Data: memory[60:61]}}
	r := of(9, l...)
	r.Items = r.Items[:3]
	want := sectorsOf(r)
	for range 2 {
		if e := record.Check(r); e != api.OK {
			t.Error(e)
		}
		record.Encode(of(9, l...))
		record.Encode(of(0, l[:3]...))
	}
	parts := encode(t, r)
	if !bytes.Equal(memory, was) {
		t.Errorf("changed: %x", memory)
	}
	for i, x := range l {
		if at := []int{0, 40, 32, 60}[i]; x.Disk != i+1 || x.At != 40 || &x.Data[0] != &memory[at] || len(x.Data) != []int{32, 32, 32, 1}[i] {
			t.Errorf("changed: %d: %v", i, x)
		}
	}
	clear(memory)
	l[0] = record.Item{Disk: 7, At: 7}
	if !alike(parts, want) {
		t.Errorf("kept: %x", parts)
	}
}

// R4: what is handed to Decode is neither changed nor kept, and nothing behind its length is read or written.
func TestPartsHandedIn(t *testing.T) {
	for _, r := range some() {
		memory := append(bytes.Join(encode(t, r), nil), mixed(1, 40)...)
		was := slices.Clone(memory)
		l := [][]byte{memory[:32], memory[32:64], memory[64:96], memory[96:128], memory[128:160]}
		got, e := record.Decode(l[:4]...)
		record.Decode(l...)
		record.Decode(l[1:]...)
		record.Decode(l[0], l[1], l[2], memory[96:130])
		if !bytes.Equal(memory, was) {
			t.Errorf("changed: %x", memory)
		}
		for i, x := range l {
			if &x[0] != &memory[32*i] || len(x) != 32 {
				t.Errorf("changed: %d: %x", i, x)
			}
		}
		clear(memory)
		clear(l)
		if e != api.OK || !same(got, r) {
			t.Errorf("kept: %v, %d, not %v", got, e, r)
		}
	}
}

// R4: each sector that Encode answers is memory of its own, also where the Items share theirs: to change it, or to write
// behind its length, changes neither what was handed in nor another list of this answer, nor another answer.
func TestSectorsHandedOut(t *testing.T) {
	shared := full(0x55)
	for _, r := range append(some(), of(3, with(shared), record.Item{Disk: 0, At: 36, Data: shared}, record.Item{Disk: 7, At: 51, Data: shared})) {
		want, was := sectorsOf(r), clone(r)
		for i := range 4 {
			parts, other := encode(t, r), encode(t, r)
			for at := range parts[i] {
				parts[i][at] ^= 255
			}
			_ = append(parts[i], full(0xEE)...)
			for j, x := range parts {
				if j != i && !bytes.Equal(x, want[j]) {
					t.Errorf("%d shares memory with %d", i, j)
				}
			}
			if !alike(other, want) || !alike(encode(t, r), want) || !same(r, was) {
				t.Errorf("%d shares memory with another answer, or with what was handed in", i)
			}
			parts[i] = nil
			if !alike(other, want) || !alike(encode(t, r), want) {
				t.Errorf("%d: the list is shared", i)
			}
		}
	}
}

// R4: each list that Decode answers is memory of its own, also where the parts share theirs.
func TestItemsHandedOut(t *testing.T) {
	shared := full(0x55)
	three := of(3, with(shared), record.Item{Disk: 0, At: 36, Data: shared}, record.Item{Disk: 7, At: 51, Data: shared})
	one := [][]byte{sectorsOf(three)[0], shared, shared, shared}
	for _, parts := range [][][]byte{sectorsOf(some()[1]), sectorsOf(some()[2]), sectorsOf(some()[3]), one} {
		want, ok := read(parts)
		was := copied(parts)
		if want = clone(want); !ok {
			t.Fatal("none")
		}
		for i := range want.Items {
			got, e := record.Decode(parts...)
			other, e2 := record.Decode(parts...)
			if e != api.OK || e2 != api.OK || !same(got, want) || !same(other, want) {
				t.Fatal(got, e, other, e2)
			}
			for at := range got.Items[i].Data {
				got.Items[i].Data[at] ^= 255
			}
			_ = append(got.Items[i].Data, full(0xEE)...)
			got.Items[i].Data = want.Items[i].Data
			if !same(got, want) || !same(other, want) || !alike(parts, was) {
				t.Errorf("%d shares memory", i)
			}
			got.Items[i] = record.Item{}
			if again, e := record.Decode(parts...); e != api.OK || !same(again, want) || !same(other, want) {
				t.Errorf("%d: the list is shared: %v, %d", i, again, e)
			}
		}
	}
}

// R5: the same arguments have the same answers, whatever was asked between, errors too.
func TestAgain(t *testing.T) {
	l := some()
	for range 2 {
		for _, r := range l {
			passes(t, r)
			refused(t, record.Record{})
			formless(t, "between", sealed("WREC")...)
		}
		slices.Reverse(l)
	}
}
