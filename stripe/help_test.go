package stripe_test

import (
	"bytes"
	"math"
	"math/bits"
	"slices"
	"testing"

	"wattle/api"
	"wattle/bench"
	"wattle/stripe"
)

const (
	onP = -1
	onQ = -2
)

// noRow is rows that no geometry has: just past the bounds on both sides, and far past them.
var noRow = []int{
	-1, -2, -4, -8, -16, -36, -37, math.MinInt32, -1 << 32, math.MinInt, math.MinInt + 1, math.MinInt + 16, math.MinInt + 36,
	16, 17, 20, 31, 32, 36, 52, 256, 256 + 3, math.MaxInt32, 1 << 32, 1<<32 + 1, math.MaxInt - 36, math.MaxInt - 35, math.MaxInt - 1, math.MaxInt,
}

func at(level, disks, chunk int) api.Geom {
	return api.Geom{Level: level, Disks: disks, Chunk: chunk}
}

// budget is how many disks hold parity in a row, width how many hold data.
func budget(g api.Geom) int { return g.Level - 4 }
func width(g api.Geom) int  { return g.Disks - budget(g) }

// good is each geometry that may be.
func good() []api.Geom {
	var l []api.Geom
	for _, level := range []int{5, 6} {
		for disks := level - 2; disks <= api.MaxDisks; disks++ {
			for _, chunk := range []int{1, 2, 4} {
				l = append(l, at(level, disks, chunk))
			}
		}
	}
	return l
}

// some is geometries of either level, with few disks and many, and each chunk.
func some() []api.Geom {
	return []api.Geom{at(5, 3, 1), at(5, 4, 4), at(5, 5, 2), at(6, 4, 2), at(6, 5, 4), at(6, 6, 1)}
}

// bad is geometries that may not be: right ones, wrong in one number, and some wrong in more.
func bad() []api.Geom {
	l := []api.Geom{{}, at(0, 5, 1), at(5, 0, 1), at(5, 5, 0), at(6, 3, 1), at(6, 3, 2), at(6, 3, 4), at(-5, -3, -1),
		at(math.MaxInt, math.MaxInt, math.MaxInt), at(math.MinInt, math.MinInt, math.MinInt)}
	for _, n := range []int{-5, -1, 0, 1, 4, 7, 1<<8 + 5, 1<<32 + 6, math.MaxInt, math.MinInt + 5} {
		l = append(l, at(n, 3, 1), at(n, 4, 2), at(n, 8, 4))
	}
	for _, n := range []int{-4, -1, 0, 1, 2, 9, 10, 16, 1<<8 + 4, 1<<32 + 4, math.MaxInt, math.MinInt + 4} {
		l = append(l, at(5, n, 1), at(5, n, 4), at(6, n, 2), at(6, n, 4))
	}
	for _, n := range []int{-4, -1, 0, 3, 5, 8, 16, 1<<8 + 1, 1<<32 + 4, math.MaxInt, math.MinInt + 1} {
		l = append(l, at(5, 3, n), at(5, 8, n), at(6, 4, n), at(6, 8, n))
	}
	return l
}

// full is a sector of one byte.
func full(c byte) []byte {
	return bytes.Repeat([]byte{c}, api.Sector)
}

// mixed is n bytes, most of them unlike their neighbours, other ones for each seed.
func mixed(seed, n int) []byte {
	b := make([]byte, n)
	x := uint32(seed)*2654435761 + 12345
	for i := range b {
		x = x*1664525 + 1013904223
		b[i] = byte(x >> 24)
	}
	return b
}

// several is n sectors of mixed bytes, other ones for each seed.
func several(seed, n int) [][]byte {
	l := make([][]byte, n)
	for k := range l {
		l[k] = mixed(1000+seed*16+k, api.Sector)
	}
	return l
}

// dataOf is the data of a row, as laid has it.
func dataOf(g api.Geom, row int) [][]byte {
	return several(row*64+g.Level*8+g.Disks, width(g))
}

// twice is a times 2 in the field, reckoned here so that the tests hang on no other package's work.
func twice(a byte) byte {
	if a >= 128 {
		return a<<1 ^ 0x1D
	}
	return a << 1
}

// sums is P and Q of sectors: Q from the last on, doubled on the way to the first.
func sums(data [][]byte) (p, q []byte) {
	p, q = full(0), full(0)
	for k := len(data) - 1; k >= 0; k-- {
		for i, x := range data[k] {
			p[i] ^= x
			q[i] = twice(q[i]) ^ x
		}
	}
	return p, q
}

// deal is what stands on each disk in a row, a data chunk's number or parity, found by walking stripe by stripe and disk
// by disk: no number is parted.
func deal(g api.Geom, row int) []int {
	p := g.Disks - 1
	for last := g.Chunk; last <= row; last += g.Chunk {
		if p--; p < 0 {
			p = g.Disks - 1
		}
	}
	l := make([]int, g.Disks)
	disk := p
	for part := range g.Disks {
		switch {
		case part == 0:
			l[disk] = onP
		case part < budget(g):
			l[disk] = onQ
		default:
			l[disk] = part - budget(g)
		}
		if disk++; disk == g.Disks {
			disk = 0
		}
	}
	return l
}

// spot is where a sector is: its row, its data chunk there, and the disk of that.
type spot struct{ row, k, disk int }

// order is the spots of all sectors, from sector 0 on, dealt out chunk by chunk.
func order(g api.Geom) []spot {
	var l []spot
	for first := 0; first < api.Rows; first += g.Chunk {
		for k := range width(g) {
			for row := first; row < first+g.Chunk; row++ {
				l = append(l, spot{row, k, slices.Index(deal(g, row), k)})
			}
		}
	}
	return l
}

// sectorsOf is the disks' sectors of a row, of this data.
func sectorsOf(g api.Geom, row int, data [][]byte) [][]byte {
	p, q := sums(data)
	l := make([][]byte, g.Disks)
	for disk, k := range deal(g, row) {
		switch k {
		case onP:
			l[disk] = p
		case onQ:
			l[disk] = q
		default:
			l[disk] = data[k]
		}
	}
	return copied(l)
}

// copied is another list of the same sectors, in memory of its own.
func copied(l [][]byte) [][]byte {
	c := make([][]byte, len(l))
	for i, x := range l {
		c[i] = slices.Clone(x)
	}
	return c
}

func alike(a, b [][]byte) bool {
	return slices.EqualFunc(a, b, bytes.Equal)
}

// newBench is a new bench of so many disks.
func newBench(t *testing.T, disks int) *bench.Bench {
	t.Helper()
	b, e := bench.New(disks)
	if e != api.OK {
		t.Fatal("New", disks, e)
	}
	return b
}

// painted is a new bench of so many disks, each of whose sectors has bytes of its own.
func painted(t *testing.T, disks int) *bench.Bench {
	t.Helper()
	b := newBench(t, disks)
	for d := range disks {
		for at := range api.Size {
			set(t, b, d, at, mixed(d*api.Size+at, api.Sector))
		}
	}
	return b
}

// laid is a painted bench of so many disks, with each row of the geometry as dataOf has it; a row's sectors on disks past
// the bench's are nowhere.
func laid(t *testing.T, g api.Geom, disks int) *bench.Bench {
	t.Helper()
	b := painted(t, disks)
	for row := range api.Rows {
		for d, x := range sectorsOf(g, row, dataOf(g, row)) {
			if d < disks {
				set(t, b, d, api.Data+row, x)
			}
		}
	}
	return b
}

// everyone is a live of so many disks, all of them live.
func everyone(disks int) []bool {
	return slices.Repeat([]bool{true}, disks)
}

// choice is the lowest digits of x, as bools.
func choice(x, size int) []bool {
	l := make([]bool, size)
	for i := range l {
		l[i] = x>>i&1 == 1
	}
	return l
}

// digits is how many of x's digits are 1.
func digits(x int) int {
	return bits.OnesCount(uint(x))
}

// is fails the test unless the answer is the one wanted.
func is(t *testing.T, name string, got, want api.Errno) {
	t.Helper()
	if got != want {
		t.Errorf("%s: %d; want %d", name, got, want)
	}
}

// set sets a sector, as it stands behind a crash too.
func set(t *testing.T, b *bench.Bench, d, at int, x []byte) {
	t.Helper()
	is(t, "Damage", b.Damage(d, at, x), api.OK)
}

// cut takes a bench's power away, and changes nothing else on it.
func cut(t *testing.T, b *bench.Bench) {
	t.Helper()
	b.Limit(0)
	for d := range b.Len() {
		b.Write(d, 0, full(0))
	}
	if !b.Down() {
		t.Fatal("there is power")
	}
}

// stands fails the test unless x is what stands on disk d at that sector.
func stands(t *testing.T, b *bench.Bench, d, at int, x []byte) {
	t.Helper()
	if got, e := b.Read(d, at); e != api.OK || !bytes.Equal(got, x) {
		t.Errorf("Read %d, %d: %x, %d; want %x", d, at, got, e, x)
	}
}

// reads fails the test unless Read of the row answers this: the data, or that error and nothing beside it.
func reads(t *testing.T, b *bench.Bench, live []bool, g api.Geom, row int, data [][]byte, want api.Errno) {
	t.Helper()
	got, e := stripe.Read(b, live, g, row)
	if e != want || e == api.OK && !alike(got, data) || e != api.OK && len(got) != 0 {
		t.Errorf("Read(%v, %v, %d): %x, %d; want %x, %d", live, g, row, got, e, data, want)
	}
}

// hasOne fails the test unless One of sector n answers this: the sector, or that error and nothing beside it.
func hasOne(t *testing.T, b *bench.Bench, live []bool, g api.Geom, n int, x []byte, want api.Errno) {
	t.Helper()
	got, e := stripe.One(b, live, g, n)
	if e != want || e == api.OK && !bytes.Equal(got, x) || e != api.OK && len(got) != 0 {
		t.Errorf("One(%v, %v, %d): %x, %d; want %x, %d", live, g, n, got, e, x, want)
	}
}

// hasAll fails the test unless a laid bench answers with what was laid: each row, each sector.
func hasAll(t *testing.T, b *bench.Bench, live []bool, g api.Geom) {
	t.Helper()
	for row := range api.Rows {
		reads(t, b, live, g, row, dataOf(g, row), api.OK)
	}
	for n, s := range order(g) {
		hasOne(t, b, live, g, n, dataOf(g, s.row)[s.k], api.OK)
	}
}

// sectors is all that can be read on a bench, disk by disk, with the errors of the reads that fail.
func sectors(b *bench.Bench) []byte {
	var all []byte
	for d := range b.Len() {
		for at := range api.Size {
			x, e := b.Read(d, at)
			all = append(append(all, byte(e)), x...)
		}
	}
	return all
}

// same fails the test unless the benches can't be told from each other, now nor behind a crash that keeps nothing, all,
// or any first ones of the pending writes.
func same(t *testing.T, name string, b, c *bench.Bench) {
	t.Helper()
	if b.Writes() != c.Writes() || b.Pending() != c.Pending() || b.Down() != c.Down() {
		t.Fatalf("%s: %d, %d, %v; want %d, %d, %v", name, b.Writes(), b.Pending(), b.Down(), c.Writes(), c.Pending(), c.Down())
	}
	if !bytes.Equal(sectors(b), sectors(c)) {
		t.Fatalf("%s: another sector", name)
	}
	for n := range b.Pending() + 1 {
		x, y := b.Clone(), c.Clone()
		x.Crash(everyone(n)...)
		y.Crash(everyone(n)...)
		if !bytes.Equal(sectors(x), sectors(y)) {
			t.Fatalf("%s: another sector behind a crash that keeps %d", name, n)
		}
	}
}
