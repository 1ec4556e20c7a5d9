package update_test

import (
	"bytes"
	"encoding/binary"
	"hash/crc32"
	"math"
	"math/bits"
	"slices"
	"testing"

	"wattle/api"
	"wattle/bench"
	"wattle/log"
	"wattle/record"
	"wattle/stripe"
	"wattle/update"
)

const (
	onP = -1
	onQ = -2
)

// greatest is the greatest number that a Record may have.
const greatest = 1<<31 - 1

func at(level, disks, chunk int) api.Geom {
	return api.Geom{Level: level, Disks: disks, Chunk: chunk}
}

// budget is how many disks hold parity in a row, width how many hold data.
func budget(g api.Geom) int { return g.Level - 4 }
func width(g api.Geom) int  { return g.Disks - budget(g) }

// good is each geometry that may be.
func good() []api.Geom {
	var l []api.Geom
	for _, level := range []int{5, 6} {
		for disks := level - 2; disks <= api.MaxDisks; disks++ {
			for _, chunk := range []int{1, 2, 4} {
				l = append(l, at(level, disks, chunk))
			}
		}
	}
	return l
}

// some is geometries of either level, with few disks and many, and each chunk.
func some() []api.Geom {
	return []api.Geom{at(5, 3, 1), at(5, 4, 4), at(5, 5, 2), at(6, 4, 2), at(6, 5, 4), at(6, 6, 1)}
}

// bad is geometries that may not be: right ones, wrong in one number, and some wrong in more.
func bad() []api.Geom {
	l := []api.Geom{{}, at(0, 5, 1), at(5, 0, 1), at(5, 5, 0), at(6, 3, 1), at(6, 3, 2), at(6, 3, 4), at(-5, -3, -1),
		at(math.MaxInt, math.MaxInt, math.MaxInt), at(math.MinInt, math.MinInt, math.MinInt)}
	for _, n := range []int{-5, -1, 0, 1, 4, 7, 1<<8 + 5, 1<<32 + 6, math.MaxInt, math.MinInt + 5} {
		l = append(l, at(n, 3, 1), at(n, 4, 2), at(n, 8, 4))
	}
	for _, n := range []int{-4, -1, 0, 1, 2, 9, 10, 16, 1<<8 + 4, 1<<32 + 4, math.MaxInt, math.MinInt + 4} {
		l = append(l, at(5, n, 1), at(5, n, 4), at(6, n, 2), at(6, n, 4))
	}
	for _, n := range []int{-4, -1, 0, 3, 5, 8, 16, 1<<8 + 1, 1<<32 + 4, math.MaxInt, math.MinInt + 1} {
		l = append(l, at(5, 3, n), at(5, 8, n), at(6, 4, n), at(6, 8, n))
	}
	return l
}

// full is a sector of one byte.
func full(c byte) []byte {
	return bytes.Repeat([]byte{c}, api.Sector)
}

// mixed is n bytes, most of them unlike their neighbours, other ones for each seed.
func mixed(seed, n int) []byte {
	b := make([]byte, n)
	x := uint32(seed)*2654435761 + 12345
	for i := range b {
		x = x*1664525 + 1013904223
		b[i] = byte(x >> 24)
	}
	return b
}

// several is n sectors of mixed bytes, other ones for each seed.
func several(seed, n int) [][]byte {
	l := make([][]byte, n)
	for k := range l {
		l[k] = mixed(1000+seed*16+k, api.Sector)
	}
	return l
}

// dataOf is the data of a row, as laid has it.
func dataOf(g api.Geom, row int) [][]byte {
	return several(row*64+g.Level*8+g.Disks, width(g))
}

// twice is a times 2 in the field, reckoned here so that the tests hang on no other package's work.
func twice(a byte) byte {
	if a >= 128 {
		return a<<1 ^ 0x1D
	}
	return a << 1
}

// sums is P and Q of sectors: Q from the last on, doubled on the way to the first.
func sums(data [][]byte) (p, q []byte) {
	p, q = full(0), full(0)
	for k := len(data) - 1; k >= 0; k-- {
		for i, x := range data[k] {
			p[i] ^= x
			q[i] = twice(q[i]) ^ x
		}
	}
	return p, q
}

// deal is what stands on each disk in a row, a data chunk's number or parity, found by walking stripe by stripe and disk
// by disk: no number is parted.
func deal(g api.Geom, row int) []int {
	p := g.Disks - 1
	for last := g.Chunk; last <= row; last += g.Chunk {
		if p--; p < 0 {
			p = g.Disks - 1
		}
	}
	l := make([]int, g.Disks)
	disk := p
	for part := range g.Disks {
		switch {
		case part == 0:
			l[disk] = onP
		case part < budget(g):
			l[disk] = onQ
		default:
			l[disk] = part - budget(g)
		}
		if disk++; disk == g.Disks {
			disk = 0
		}
	}
	return l
}

// spot is where a sector is: its row, its data chunk there, and the disk of that.
type spot struct{ row, k, disk int }

// order is the spots of all sectors, from sector 0 on, dealt out chunk by chunk.
func order(g api.Geom) []spot {
	var l []spot
	for first := 0; first < api.Rows; first += g.Chunk {
		for k := range width(g) {
			for row := first; row < first+g.Chunk; row++ {
				l = append(l, spot{row, k, slices.Index(deal(g, row), k)})
			}
		}
	}
	return l
}

// sectorsOf is the disks' sectors of a row, of this data.
func sectorsOf(g api.Geom, row int, data [][]byte) [][]byte {
	p, q := sums(data)
	l := make([][]byte, g.Disks)
	for disk, k := range deal(g, row) {
		switch k {
		case onP:
			l[disk] = p
		case onQ:
			l[disk] = q
		default:
			l[disk] = data[k]
		}
	}
	return copied(l)
}

// copied is another list of the same sectors, in memory of its own.
func copied(l [][]byte) [][]byte {
	c := make([][]byte, len(l))
	for i, x := range l {
		c[i] = slices.Clone(x)
	}
	return c
}

func alike(a, b [][]byte) bool {
	return slices.EqualFunc(a, b, bytes.Equal)
}

// newBench is a new bench of so many disks.
func newBench(t *testing.T, disks int) *bench.Bench {
	t.Helper()
	b, e := bench.New(disks)
	if e != api.OK {
		t.Fatal("New", disks, e)
	}
	return b
}

// painted is a new bench of so many disks, each of whose sectors has bytes of its own.
func painted(t *testing.T, disks int) *bench.Bench {
	t.Helper()
	b := newBench(t, disks)
	for d := range disks {
		for at := range api.Size {
			set(t, b, d, at, mixed(d*api.Size+at, api.Sector))
		}
	}
	return b
}

// laid is a painted bench of so many disks, with each row of the geometry as dataOf has it; a row's sectors on disks past
// the bench's are nowhere.
func laid(t *testing.T, g api.Geom, disks int) *bench.Bench {
	t.Helper()
	b := painted(t, disks)
	for row := range api.Rows {
		for d, x := range sectorsOf(g, row, dataOf(g, row)) {
			if d < disks {
				set(t, b, d, api.Data+row, x)
			}
		}
	}
	return b
}

// everyone is a live of so many disks, all of them live.
func everyone(disks int) []bool {
	return slices.Repeat([]bool{true}, disks)
}

// choice is the lowest digits of x, as bools.
func choice(x, size int) []bool {
	l := make([]bool, size)
	for i := range l {
		l[i] = x>>i&1 == 1
	}
	return l
}

// digits is how many of x's digits are 1.
func digits(x int) int {
	return bits.OnesCount(uint(x))
}

// is fails the test unless the answer is the one wanted.
func is(t *testing.T, name string, got, want api.Errno) {
	t.Helper()
	if got != want {
		t.Errorf("%s: %d; want %d", name, got, want)
	}
}

// set sets a sector, as it stands behind a crash too.
func set(t *testing.T, b *bench.Bench, d, at int, x []byte) {
	t.Helper()
	is(t, "Damage", b.Damage(d, at, x), api.OK)
}

// cut takes a bench's power away, and changes nothing else on it.
func cut(t *testing.T, b *bench.Bench) {
	t.Helper()
	b.Limit(0)
	for d := range b.Len() {
		b.Write(d, 0, full(0))
	}
	if !b.Down() {
		t.Fatal("there is power")
	}
}

// stands fails the test unless x is what stands on disk d at that sector.
func stands(t *testing.T, b *bench.Bench, d, at int, x []byte) {
	t.Helper()
	if got, e := b.Read(d, at); e != api.OK || !bytes.Equal(got, x) {
		t.Errorf("Read %d, %d: %x, %d; want %x", d, at, got, e, x)
	}
}

// gone makes those of the geometry's disks go for which mask has a digit, by turns: not live, failed though live, failed
// and not live. It answers which disks are live.
func gone(b *bench.Bench, g api.Geom, mask, turn int) []bool {
	live := everyone(b.Len())
	for d := range min(g.Disks, b.Len()) {
		if mask>>d&1 == 0 {
			continue
		}
		how := (turn + d) % 3
		if how != 0 {
			b.Fail(d)
		}
		live[d] = how == 1
	}
	return live
}

// changed is the data of a row, as laid has it, with x in the place of data chunk k's sector.
func changed(g api.Geom, s spot, x []byte) [][]byte {
	data := copied(dataOf(g, s.row))
	data[s.k] = slices.Clone(x)
	return data
}

// planned is what is to be written so that a row has this data, of which data chunk k alone is new: its own disk's sector,
// P, Q, but of those disks for which mask has a digit.
func planned(g api.Geom, s spot, data [][]byte, mask, seq int) record.Record {
	r, what, l := record.Record{Seq: seq}, deal(g, s.row), sectorsOf(g, s.row, data)
	for _, part := range []int{s.k, onP, onQ} {
		if d := slices.Index(what, part); d >= 0 && mask>>d&1 == 0 {
			r.Items = append(r.Items, record.Item{Disk: d, At: api.Data + s.row, Data: l[d]})
		}
	}
	return r
}

// sealed is the sectors of a Record in the log, sealed by another's work than package crc.
func sealed(r record.Record) [][]byte {
	first := binary.BigEndian.AppendUint32([]byte("WREC"), uint32(r.Seq))
	first = append(first, byte(len(r.Items)))
	parts := [][]byte{full(0), full(0), full(0), full(0)}
	for i, x := range r.Items {
		first = append(first, byte(x.Disk), byte(x.At))
		copy(parts[1+i], x.Data)
	}
	copy(parts[0], first)
	all := append(slices.Clone(parts[0][:28]), bytes.Join(parts[1:], nil)...)
	binary.BigEndian.PutUint32(parts[0][28:], crc32.Checksum(all, crc32.MakeTable(crc32.Castagnoli)))
	return parts
}

// putByHand writes a Record in the log of each live disk, then flushes these. False: the power went.
func putByHand(b *bench.Bench, live []bool, r record.Record) bool {
	for d := range b.Len() {
		for i, x := range sealed(r) {
			if d < len(live) && live[d] && b.Write(d, api.Log+i, x) == api.ErrDown {
				return false
			}
		}
	}
	for d := range b.Len() {
		if d < len(live) && live[d] {
			b.Flush(d)
		}
	}
	return true
}

// doByHand writes a Record in the log of each live disk, flushes these, then writes and flushes its Items. False: the
// power went.
func doByHand(b *bench.Bench, live []bool, r record.Record) bool {
	if !putByHand(b, live, r) {
		return false
	}
	for _, x := range r.Items {
		if b.Write(x.Disk, x.At, x.Data) == api.ErrDown {
			return false
		}
	}
	for _, x := range r.Items {
		b.Flush(x.Disk)
	}
	return true
}

// sameRecord tells whether the Records are one and the same.
func sameRecord(a, b record.Record) bool {
	return a.Seq == b.Seq && slices.EqualFunc(a.Items, b.Items, func(x, y record.Item) bool {
		return x.Disk == y.Disk && x.At == y.At && bytes.Equal(x.Data, y.Data)
	})
}

// plans fails the test unless Plan answers this, and leaves the bench as it was: the Record, or that error and nothing
// beside it.
func plans(t *testing.T, b *bench.Bench, live []bool, g api.Geom, n int, x []byte, seq int, r record.Record, want api.Errno) {
	t.Helper()
	was := b.Clone()
	got, e := update.Plan(b, live, g, n, x, seq)
	if e != want || !sameRecord(got, r) {
		t.Errorf("Plan(%v, %v, %d, %x, %d): %v, %d; want %v, %d", live, g, n, x, seq, got, e, r, want)
	}
	same(t, "planned", b, was)
}

// does fails the test unless Do is OK.
func does(t *testing.T, b *bench.Bench, live []bool, g api.Geom, n int, x []byte, seq int) {
	t.Helper()
	if e := update.Do(b, live, g, n, x, seq); e != api.OK {
		t.Errorf("Do(%v, %v, %d, %x, %d): %d", live, g, n, x, seq, e)
	}
}

// refuses fails the test unless Plan and Do answer that error, and leave the bench as it was.
func refuses(t *testing.T, b *bench.Bench, live []bool, g api.Geom, n int, x []byte, seq int, want api.Errno) {
	t.Helper()
	was := b.Clone()
	r, e := update.Plan(b, live, g, n, x, seq)
	if e != want || r.Seq != 0 || len(r.Items) != 0 {
		t.Errorf("Plan(%v, %v, %d, %x, %d): %v, %d; want %d", live, g, n, x, seq, r, e, want)
	}
	if e := update.Do(b, live, g, n, x, seq); e != want {
		t.Errorf("Do(%v, %v, %d, %x, %d): %d; want %d", live, g, n, x, seq, e, want)
	}
	same(t, "refused", b, was)
}

// newest fails the test unless this is the newest Record in the log.
func newest(t *testing.T, b *bench.Bench, live []bool, r record.Record) {
	t.Helper()
	if got, ok := log.Get(b, live); !ok || !sameRecord(got, r) {
		t.Errorf("Get(%v): %v, %v; want %v", live, got, ok, r)
	}
}

// hasOne fails the test unless sector n reads as x.
func hasOne(t *testing.T, b *bench.Bench, live []bool, g api.Geom, n int, x []byte) {
	t.Helper()
	if got, e := stripe.One(b, live, g, n); e != api.OK || !bytes.Equal(got, x) {
		t.Errorf("One(%v, %v, %d): %x, %d; want %x", live, g, n, got, e, x)
	}
}

// agrees fails the test unless the row stands on the disks of the geometry, but those for which mask has a digit, as its
// data has it.
func agrees(t *testing.T, b *bench.Bench, g api.Geom, row int, data [][]byte, mask int) {
	t.Helper()
	for d, x := range sectorsOf(g, row, data) {
		if mask>>d&1 == 0 {
			stands(t, b, d, api.Data+row, x)
		}
	}
}

// sectors is all that can be read on a bench, disk by disk, with the errors of the reads that fail.
func sectors(b *bench.Bench) []byte {
	var all []byte
	for d := range b.Len() {
		for at := range api.Size {
			x, e := b.Read(d, at)
			all = append(append(all, byte(e)), x...)
		}
	}
	return all
}

// same fails the test unless the benches can't be told from each other, now nor behind a crash that keeps nothing, or so
// many first ones of the pending writes.
func same(t *testing.T, name string, b, c *bench.Bench) {
	t.Helper()
	if b.Writes() != c.Writes() || b.Pending() != c.Pending() || b.Down() != c.Down() {
		t.Fatalf("%s: %d, %d, %v; want %d, %d, %v", name, b.Writes(), b.Pending(), b.Down(), c.Writes(), c.Pending(), c.Down())
	}
	if !bytes.Equal(sectors(b), sectors(c)) {
		t.Fatalf("%s: another sector", name)
	}
	for n := 0; n <= b.Pending(); n += 1 + b.Pending()/3 {
		x, y := b.Clone(), c.Clone()
		x.Crash(everyone(n)...)
		y.Crash(everyone(n)...)
		if !bytes.Equal(sectors(x), sectors(y)) {
			t.Fatalf("%s: another sector behind a crash that keeps %d", name, n)
		}
	}
}
