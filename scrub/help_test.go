package scrub_test

import (
	"bytes"
	"math"
	"slices"
	"testing"

	"wattle/api"
	"wattle/bench"
	"wattle/scrub"
)

const (
	onP = -1
	onQ = -2
)

func at(level, disks, chunk int) api.Geom {
	return api.Geom{Level: level, Disks: disks, Chunk: chunk}
}

// budget is how many disks hold parity in a row, width how many hold data.
func budget(g api.Geom) int { return g.Level - 4 }
func width(g api.Geom) int  { return g.Disks - budget(g) }

// good is each geometry that may be.
func good() []api.Geom {
	var l []api.Geom
	for _, level := range []int{5, 6} {
		for disks := level - 2; disks <= api.MaxDisks; disks++ {
			for _, chunk := range []int{1, 2, 4} {
				l = append(l, at(level, disks, chunk))
			}
		}
	}
	return l
}

// bad is geometries that may not be: right ones, wrong in one number, and some wrong in more.
func bad() []api.Geom {
	l := []api.Geom{{}, at(0, 5, 1), at(5, 0, 1), at(5, 5, 0), at(6, 3, 1), at(6, 3, 2), at(6, 3, 4), at(-5, -3, -1),
		at(math.MaxInt, math.MaxInt, math.MaxInt), at(math.MinInt, math.MinInt, math.MinInt)}
	for _, n := range []int{-5, -1, 0, 1, 4, 7, 1<<8 + 5, 1<<32 + 6, math.MaxInt, math.MinInt + 5} {
		l = append(l, at(n, 3, 1), at(n, 4, 2), at(n, 8, 4))
	}
	for _, n := range []int{-4, -1, 0, 1, 2, 9, 10, 16, 1<<8 + 4, 1<<32 + 4, math.MaxInt, math.MinInt + 4} {
		l = append(l, at(5, n, 1), at(5, n, 4), at(6, n, 2), at(6, n, 4))
	}
	for _, n := range []int{-4, -1, 0, 3, 5, 8, 16, 1<<8 + 1, 1<<32 + 4, math.MaxInt, math.MinInt + 1} {
		l = append(l, at(5, 3, n), at(5, 8, n), at(6, 4, n), at(6, 8, n))
	}
	return l
}

// layout is which geometry each row has: those below split to, the others a.
type layout struct {
	a, to api.Geom
	split int
}

func (l layout) of(row int) api.Geom {
	if row < l.split {
		return l.to
	}
	return l.a
}

// disks is how many disks the layout's rows need.
func (l layout) disks() int {
	n := 0
	for row := range api.Rows {
		n = max(n, l.of(row).Disks)
	}
	return n
}

// pairs is layouts of two geometries: a grows by disks, or by a level, or changes its chunks, or all of it; and the
// other way round, which no reshape does, and Rows does not ask.
func pairs() []layout {
	var l []layout
	for _, two := range [][2]api.Geom{
		{at(5, 3, 1), at(5, 4, 1)}, {at(5, 3, 4), at(5, 6, 4)}, {at(5, 4, 2), at(6, 5, 2)}, {at(5, 5, 1), at(6, 8, 4)},
		{at(6, 4, 1), at(6, 5, 1)}, {at(6, 6, 4), at(6, 6, 2)}, {at(5, 4, 1), at(5, 4, 2)}, {at(5, 7, 4), at(6, 8, 4)},
		{at(5, 3, 2), at(6, 4, 1)}, {at(5, 4, 4), at(6, 4, 4)},
	} {
		for _, split := range []int{1, 4, 7, 12, 15} {
			l = append(l, layout{two[0], two[1], split}, layout{two[1], two[0], split})
		}
	}
	return l
}

// few is layouts of each kind: one geometry, all rows of the other, and both.
func few() []layout {
	return []layout{
		{a: at(5, 3, 1)}, {a: at(5, 5, 4)}, {a: at(6, 5, 2)}, {at(5, 3, 1), at(6, 4, 2), api.Rows},
		{at(5, 3, 1), at(5, 4, 1), 5}, {at(5, 4, 4), at(6, 6, 4), 8}, {at(6, 5, 1), at(5, 3, 2), 6}, {at(6, 4, 2), at(6, 6, 1), 3},
	}
}

// full is a sector of one byte.
func full(c byte) []byte {
	return bytes.Repeat([]byte{c}, api.Sector)
}

// mixed is n bytes, most of them unlike their neighbours, other ones for each seed.
func mixed(seed, n int) []byte {
	b := make([]byte, n)
	x := uint32(seed)*2654435761 + 12345
	for i := range b {
		x = x*1664525 + 1013904223
		b[i] = byte(x >> 24)
	}
	return b
}

// dataOf is the data of a row, as laid has it.
func dataOf(g api.Geom, row int) [][]byte {
	l := make([][]byte, width(g))
	for k := range l {
		l[k] = mixed(1000+(row*64+g.Level*8+g.Disks)*16+k, api.Sector)
	}
	return l
}

// twice is a times 2 in the field, reckoned here so that the tests hang on no other package's work.
func twice(a byte) byte {
	if a >= 128 {
		return a<<1 ^ 0x1D
	}
	return a << 1
}

// sums is P and Q of sectors: Q from the last on, doubled on the way to the first.
func sums(data [][]byte) (p, q []byte) {
	p, q = full(0), full(0)
	for k := len(data) - 1; k >= 0; k-- {
		for i, x := range data[k] {
			p[i] ^= x
			q[i] = twice(q[i]) ^ x
		}
	}
	return p, q
}

// deal is what stands on each disk in a row, a data chunk's number or parity, found by walking stripe by stripe and disk
// by disk: no number is parted.
func deal(g api.Geom, row int) []int {
	p := g.Disks - 1
	for last := g.Chunk; last <= row; last += g.Chunk {
		if p--; p < 0 {
			p = g.Disks - 1
		}
	}
	l := make([]int, g.Disks)
	disk := p
	for part := range g.Disks {
		switch {
		case part == 0:
			l[disk] = onP
		case part < budget(g):
			l[disk] = onQ
		default:
			l[disk] = part - budget(g)
		}
		if disk++; disk == g.Disks {
			disk = 0
		}
	}
	return l
}

// on is the disk on which a data chunk, or parity, stands in a row.
func on(g api.Geom, row, part int) int {
	return slices.Index(deal(g, row), part)
}

// sectorsOf is the disks' sectors of a row, of this data, each in memory of its own.
func sectorsOf(g api.Geom, row int, data [][]byte) [][]byte {
	p, q := sums(data)
	l := make([][]byte, g.Disks)
	for disk, k := range deal(g, row) {
		switch k {
		case onP:
			l[disk] = p
		case onQ:
			l[disk] = q
		default:
			l[disk] = slices.Clone(data[k])
		}
	}
	return l
}

// agree tells whether the disks' sectors of a row agree: the data among them has the very sums that stand there.
func agree(g api.Geom, row int, sectors [][]byte) bool {
	data := make([][]byte, width(g))
	for disk, k := range deal(g, row) {
		if k >= 0 {
			data[k] = sectors[disk]
		}
	}
	return slices.EqualFunc(sectorsOf(g, row, data), sectors, bytes.Equal)
}

// wanted is the rows of a bench with power that Rows is to tell, found row by row and disk by disk.
func wanted(b *bench.Bench, live []bool, l layout) []int {
	var bad []int
rows:
	for row := range api.Rows {
		g := l.of(row)
		var sectors [][]byte
		for d := range g.Disks {
			if d >= b.Len() || d >= len(live) || !live[d] || b.Failed(d) {
				continue rows
			}
			x, _ := b.Read(d, 36+row)
			sectors = append(sectors, x)
		}
		if !agree(g, row, sectors) {
			bad = append(bad, row)
		}
	}
	return bad
}

// newBench is a new bench of so many disks.
func newBench(t *testing.T, disks int) *bench.Bench {
	t.Helper()
	b, e := bench.New(disks)
	if e != api.OK {
		t.Fatal("New", disks, e)
	}
	return b
}

// painted is a new bench of so many disks, each of whose sectors has bytes of its own.
func painted(t *testing.T, disks int) *bench.Bench {
	t.Helper()
	b := newBench(t, disks)
	for d := range disks {
		for at := range api.Size {
			set(t, b, d, at, mixed(d*api.Size+at, api.Sector))
		}
	}
	return b
}

// laid is a painted bench of so many disks, with each row as dataOf has it; a row's sectors on disks past the bench's are
// nowhere.
func laid(t *testing.T, l layout, disks int) *bench.Bench {
	t.Helper()
	b := painted(t, disks)
	for row := range api.Rows {
		lay(t, b, l.of(row), row, dataOf(l.of(row), row))
	}
	return b
}

// lay sets a row's sectors to those of this data.
func lay(t *testing.T, b *bench.Bench, g api.Geom, row int, data [][]byte) {
	t.Helper()
	for d, x := range sectorsOf(g, row, data) {
		if d < b.Len() {
			set(t, b, d, api.Data+row, x)
		}
	}
}

// everyone is a live of so many disks, all of them live.
func everyone(disks int) []bool {
	return slices.Repeat([]bool{true}, disks)
}

// but is a live of so many disks, all of them live but these.
func but(disks int, out ...int) []bool {
	l := everyone(disks)
	for _, d := range out {
		l[d] = false
	}
	return l
}

// choice is the lowest digits of x, as bools.
func choice(x, size int) []bool {
	l := make([]bool, size)
	for i := range l {
		l[i] = x>>i&1 == 1
	}
	return l
}

// rowsIn is the rows for which mask has a digit, rising.
func rowsIn(mask int) []int {
	var l []int
	for row := range api.Rows {
		if mask>>row&1 == 1 {
			l = append(l, row)
		}
	}
	return l
}

// allRows is each row, rising.
func allRows() []int {
	return rowsIn(1<<api.Rows - 1)
}

// is fails the test unless the answer is the one wanted.
func is(t *testing.T, name string, got, want api.Errno) {
	t.Helper()
	if got != want {
		t.Errorf("%s: %d; want %d", name, got, want)
	}
}

// set sets a sector, as it stands behind a crash too.
func set(t *testing.T, b *bench.Bench, d, at int, x []byte) {
	t.Helper()
	is(t, "Damage", b.Damage(d, at, x), api.OK)
}

// get is what stands on disk d at that sector.
func get(t *testing.T, b *bench.Bench, d, at int) []byte {
	t.Helper()
	x, e := b.Read(d, at)
	is(t, "Read", e, api.OK)
	return x
}

// turn turns digits of one byte of disk d's sector of a row; once more, and it is as it was.
func turn(t *testing.T, b *bench.Bench, d, row, i int, digits byte) {
	t.Helper()
	x := get(t, b, d, api.Data+row)
	x[i] ^= digits
	set(t, b, d, api.Data+row, x)
}

// cut takes a bench's power away, and changes nothing else on it.
func cut(t *testing.T, b *bench.Bench) {
	t.Helper()
	b.Limit(0)
	for d := range b.Len() {
		b.Write(d, 0, full(0))
	}
	if !b.Down() {
		t.Fatal("there is power")
	}
}

// rows is Rows of a layout.
func rows(b *bench.Bench, live []bool, l layout) ([]int, api.Errno) {
	return scrub.Rows(b, live, l.a, l.to, l.split)
}

// tells fails the test unless Rows tells just these rows.
func tells(t *testing.T, b *bench.Bench, live []bool, l layout, want ...int) {
	t.Helper()
	if got, e := rows(b, live, l); e != api.OK || !slices.Equal(got, want) {
		t.Fatalf("Rows(%v, %v): %v, %d; want %v", live, l, got, e, want)
	}
}

// refuses fails the test unless Rows answers that error and no rows, and leaves the bench as it was.
func refuses(t *testing.T, b *bench.Bench, live []bool, l layout, want api.Errno) {
	t.Helper()
	was := b.Clone()
	if got, e := rows(b, live, l); e != want || len(got) != 0 {
		t.Errorf("Rows(%v, %v): %v, %d; want %d", live, l, got, e, want)
	}
	same(t, "refused", b, was)
}

// sectors is all that can be read on a bench, disk by disk, with the errors of the reads that fail.
func sectors(b *bench.Bench) []byte {
	var all []byte
	for d := range b.Len() {
		for at := range api.Size {
			x, e := b.Read(d, at)
			all = append(append(all, byte(e)), x...)
		}
	}
	return all
}

// same fails the test unless the benches can't be told from each other, now nor behind a crash that keeps nothing, or so
// many first ones of the pending writes; nor by how many writes are left till the power goes.
func same(t *testing.T, name string, b, c *bench.Bench) {
	t.Helper()
	if b.Writes() != c.Writes() || b.Pending() != c.Pending() || b.Down() != c.Down() {
		t.Fatalf("%s: %d, %d, %v; want %d, %d, %v", name, b.Writes(), b.Pending(), b.Down(), c.Writes(), c.Pending(), c.Down())
	}
	if !bytes.Equal(sectors(b), sectors(c)) {
		t.Fatalf("%s: another sector", name)
	}
	for n := 0; n <= b.Pending(); n += 1 + b.Pending()/3 {
		x, y := b.Clone(), c.Clone()
		x.Crash(everyone(n)...)
		y.Crash(everyone(n)...)
		if !bytes.Equal(sectors(x), sectors(y)) {
			t.Fatalf("%s: another sector behind a crash that keeps %d", name, n)
		}
	}
	x, y := b.Clone(), c.Clone()
	for i := range 5 {
		if e, f := x.Write(i%b.Len(), 0, full(1)), y.Write(i%b.Len(), 0, full(1)); e != f {
			t.Fatalf("%s: another limit: %d, %d", name, e, f)
		}
	}
}
