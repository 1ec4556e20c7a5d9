package rebuild_test

import (
	"bytes"
	"math"
	"math/bits"
	"slices"
	"testing"

	"wattle/api"
	"wattle/bench"
	"wattle/rebuild"
	"wattle/stripe"
)

const (
	onP = -1
	onQ = -2
)

func at(level, disks, chunk int) api.Geom {
	return api.Geom{Level: level, Disks: disks, Chunk: chunk}
}

// budget is how many disks hold parity in a row, width how many hold data.
func budget(g api.Geom) int { return g.Level - 4 }
func width(g api.Geom) int  { return g.Disks - budget(g) }

// good is each geometry that may be.
func good() []api.Geom {
	var l []api.Geom
	for _, level := range []int{5, 6} {
		for disks := level - 2; disks <= api.MaxDisks; disks++ {
			for _, chunk := range []int{1, 2, 4} {
				l = append(l, at(level, disks, chunk))
			}
		}
	}
	return l
}

// some is geometries of either level, with few disks and many, and each chunk.
func some() []api.Geom {
	return []api.Geom{at(5, 3, 1), at(5, 4, 4), at(5, 5, 2), at(6, 4, 2), at(6, 5, 4), at(6, 6, 1)}
}

// bad is geometries that may not be: right ones, wrong in one number, and some wrong in more.
func bad() []api.Geom {
	l := []api.Geom{{}, at(0, 5, 1), at(5, 0, 1), at(5, 5, 0), at(6, 3, 1), at(6, 3, 2), at(6, 3, 4), at(-5, -3, -1),
		at(math.MaxInt, math.MaxInt, math.MaxInt), at(math.MinInt, math.MinInt, math.MinInt)}
	for _, n := range []int{-5, -1, 0, 1, 4, 7, 1<<8 + 5, 1<<32 + 6, math.MaxInt, math.MinInt + 5} {
		l = append(l, at(n, 3, 1), at(n, 4, 2), at(n, 8, 4))
	}
	for _, n := range []int{-4, -1, 0, 1, 2, 9, 10, 16, 1<<8 + 4, 1<<32 + 4, math.MaxInt, math.MinInt + 4} {
		l = append(l, at(5, n, 1), at(5, n, 4), at(6, n, 2), at(6, n, 4))
	}
	for _, n := range []int{-4, -1, 0, 3, 5, 8, 16, 1<<8 + 1, 1<<32 + 4, math.MaxInt, math.MinInt + 1} {
		l = append(l, at(5, 3, n), at(5, 8, n), at(6, 4, n), at(6, 8, n))
	}
	return l
}

// layout is which geometry each row has: those below split to, the others a.
type layout struct {
	a, to api.Geom
	split int
}

func (l layout) of(row int) api.Geom {
	if row < l.split {
		return l.to
	}
	return l.a
}

// disks is how many disks the layout's rows need.
func (l layout) disks() int {
	n := 0
	for row := range api.Rows {
		n = max(n, l.of(row).Disks)
	}
	return n
}

// pairs is layouts of two geometries: a grows by disks, or by a level, or changes its chunks, or all of it; and the
// other way round, which no reshape does, and Disk does not ask.
func pairs() []layout {
	var l []layout
	for _, two := range [][2]api.Geom{
		{at(5, 3, 1), at(5, 4, 1)}, {at(5, 3, 4), at(5, 6, 4)}, {at(5, 4, 2), at(6, 5, 2)}, {at(5, 5, 1), at(6, 8, 4)},
		{at(6, 4, 1), at(6, 5, 1)}, {at(6, 6, 4), at(6, 6, 2)}, {at(5, 4, 1), at(5, 4, 2)}, {at(5, 7, 4), at(6, 8, 4)},
		{at(5, 3, 2), at(6, 4, 1)}, {at(5, 4, 4), at(6, 4, 4)},
	} {
		for _, split := range []int{1, 4, 7, 12, 15} {
			l = append(l, layout{two[0], two[1], split}, layout{two[1], two[0], split})
		}
	}
	return l
}

// few is layouts of each kind: one geometry, all rows of the other, and both.
func few() []layout {
	return []layout{
		{a: at(5, 3, 1)}, {a: at(5, 5, 4)}, {a: at(6, 5, 2)}, {at(5, 3, 1), at(6, 4, 2), api.Rows},
		{at(5, 3, 1), at(5, 4, 1), 5}, {at(5, 4, 4), at(6, 6, 4), 8}, {at(6, 5, 1), at(5, 3, 2), 6}, {at(6, 4, 2), at(6, 6, 1), 3},
	}
}

// full is a sector of one byte.
func full(c byte) []byte {
	return bytes.Repeat([]byte{c}, api.Sector)
}

// mixed is n bytes, most of them unlike their neighbours, other ones for each seed.
func mixed(seed, n int) []byte {
	b := make([]byte, n)
	x := uint32(seed)*2654435761 + 12345
	for i := range b {
		x = x*1664525 + 1013904223
		b[i] = byte(x >> 24)
	}
	return b
}

// several is n sectors of mixed bytes, other ones for each seed.
func several(seed, n int) [][]byte {
	l := make([][]byte, n)
	for k := range l {
		l[k] = mixed(1000+seed*16+k, api.Sector)
	}
	return l
}

// dataOf is the data of a row, as laid has it.
func dataOf(g api.Geom, row int) [][]byte {
	return several(row*64+g.Level*8+g.Disks, width(g))
}

// twice is a times 2 in the field, reckoned here so that the tests hang on no other package's work.
func twice(a byte) byte {
	if a >= 128 {
		return a<<1 ^ 0x1D
	}
	return a << 1
}

// sums is P and Q of sectors: Q from the last on, doubled on the way to the first.
func sums(data [][]byte) (p, q []byte) {
	p, q = full(0), full(0)
	for k := len(data) - 1; k >= 0; k-- {
		for i, x := range data[k] {
			p[i] ^= x
			q[i] = twice(q[i]) ^ x
		}
	}
	return p, q
}

// deal is what stands on each disk in a row, a data chunk's number or parity, found by walking stripe by stripe and disk
// by disk: no number is parted.
func deal(g api.Geom, row int) []int {
	p := g.Disks - 1
	for last := g.Chunk; last <= row; last += g.Chunk {
		if p--; p < 0 {
			p = g.Disks - 1
		}
	}
	l := make([]int, g.Disks)
	disk := p
	for part := range g.Disks {
		switch {
		case part == 0:
			l[disk] = onP
		case part < budget(g):
			l[disk] = onQ
		default:
			l[disk] = part - budget(g)
		}
		if disk++; disk == g.Disks {
			disk = 0
		}
	}
	return l
}

// sectorsOf is the disks' sectors of a row, of this data, each in memory of its own.
func sectorsOf(g api.Geom, row int, data [][]byte) [][]byte {
	p, q := sums(data)
	l := make([][]byte, g.Disks)
	for disk, k := range deal(g, row) {
		switch k {
		case onP:
			l[disk] = p
		case onQ:
			l[disk] = q
		default:
			l[disk] = slices.Clone(data[k])
		}
	}
	return l
}

func alike(a, b [][]byte) bool {
	return slices.EqualFunc(a, b, bytes.Equal)
}

// newBench is a new bench of so many disks.
func newBench(t *testing.T, disks int) *bench.Bench {
	t.Helper()
	b, e := bench.New(disks)
	if e != api.OK {
		t.Fatal("New", disks, e)
	}
	return b
}

// painted is a new bench of so many disks, each of whose sectors has bytes of its own.
func painted(t *testing.T, disks int) *bench.Bench {
	t.Helper()
	b := newBench(t, disks)
	for d := range disks {
		paint(t, b, d)
	}
	return b
}

// paint sets each sector of disk d to bytes of its own.
func paint(t *testing.T, b *bench.Bench, d int) {
	t.Helper()
	for at := range api.Size {
		set(t, b, d, at, mixed(d*api.Size+at, api.Sector))
	}
}

// laid is a painted bench of so many disks, with each row as dataOf has it; a row's sectors on disks past the bench's are
// nowhere.
func laid(t *testing.T, l layout, disks int) *bench.Bench {
	t.Helper()
	b := painted(t, disks)
	for row := range api.Rows {
		g := l.of(row)
		for d, x := range sectorsOf(g, row, dataOf(g, row)) {
			if d < disks {
				set(t, b, d, api.Data+row, x)
			}
		}
	}
	return b
}

// everyone is a live of so many disks, all of them live.
func everyone(disks int) []bool {
	return slices.Repeat([]bool{true}, disks)
}

// but is a live of so many disks, all of them live but these.
func but(disks int, out ...int) []bool {
	l := everyone(disks)
	for _, d := range out {
		l[d] = false
	}
	return l
}

// choice is the lowest digits of x, as bools.
func choice(x, size int) []bool {
	l := make([]bool, size)
	for i := range l {
		l[i] = x>>i&1 == 1
	}
	return l
}

// digits is how many of x's digits are 1.
func digits(x int) int {
	return bits.OnesCount(uint(x))
}

// is fails the test unless the answer is the one wanted.
func is(t *testing.T, name string, got, want api.Errno) {
	t.Helper()
	if got != want {
		t.Errorf("%s: %d; want %d", name, got, want)
	}
}

// set sets a sector, as it stands behind a crash too.
func set(t *testing.T, b *bench.Bench, d, at int, x []byte) {
	t.Helper()
	is(t, "Damage", b.Damage(d, at, x), api.OK)
}

// cut takes a bench's power away, and changes nothing else on it.
func cut(t *testing.T, b *bench.Bench) {
	t.Helper()
	b.Limit(0)
	for d := range b.Len() {
		b.Write(d, 0, full(0))
	}
	if !b.Down() {
		t.Fatal("there is power")
	}
}

// lose takes from disk d what it had: a new one stands there, of zeros, or (by turns) one with other bytes in each
// sector, some of them pending.
func lose(t *testing.T, b *bench.Bench, d, turn int) {
	t.Helper()
	is(t, "Fail", b.Fail(d), api.OK)
	is(t, "Replace", b.Replace(d), api.OK)
	if turn%3 == 0 {
		return
	}
	paint(t, b, d)
	for i, at := range []int{api.Data + 3, api.SlotA, api.Data + 3, api.Size - 1, api.Data}[:turn%3*2] {
		is(t, "Write by hand", b.Write(d, at, full(byte(i+1))), api.OK)
	}
}

// gone makes those disks go for which mask has a digit, by turns: not live, failed though live, failed and not live. It
// answers which disks are live.
func gone(b *bench.Bench, mask, turn int) []bool {
	live := everyone(b.Len())
	for d := range b.Len() {
		if mask>>d&1 == 0 {
			continue
		}
		how := (turn + d) % 3
		if how != 0 {
			b.Fail(d)
		}
		live[d] = how == 1
	}
	return live
}

// readable tells whether a row of the geometry can be read, with those disks gone for which mask has a digit, and those
// past the bench's.
func readable(b *bench.Bench, g api.Geom, mask int) bool {
	here := 1<<min(g.Disks, b.Len()) - 1
	return g.Disks-digits(here&^mask) <= budget(g)
}

// renewed writes on disk d what a laid bench has there, row by row, and flushes it, all by hand; those of the other disks
// are gone for which mask has a digit. It ends at a row that can't be read, or when the power goes.
func renewed(b *bench.Bench, l layout, d, mask int) api.Errno {
	for row := range api.Rows {
		g := l.of(row)
		if d >= g.Disks {
			continue
		}
		if !readable(b, g, mask|1<<d) {
			return api.ErrLost
		}
		if b.Write(d, api.Data+row, sectorsOf(g, row, dataOf(g, row))[d]) != api.OK {
			return api.ErrDown
		}
	}
	return b.Flush(d)
}

// rowsOn is how many rows of the layout disk d is in.
func rowsOn(l layout, d int) int {
	n := 0
	for row := range api.Rows {
		if d < l.of(row).Disks {
			n++
		}
	}
	return n
}

// disk is Disk of a layout.
func disk(b *bench.Bench, live []bool, d int, l layout) api.Errno {
	return rebuild.Disk(b, live, d, l.a, l.to, l.split)
}

// renews fails the test unless Disk does just what is to be done by hand, and answers the bench behind it.
func renews(t *testing.T, start *bench.Bench, live []bool, d int, l layout, mask int) *bench.Bench {
	t.Helper()
	b, want := start.Clone(), start.Clone()
	e, wanted := disk(b, live, d, l), renewed(want, l, d, mask)
	if e != wanted {
		t.Fatalf("Disk(%v, %d, %v): %d; want %d", live, d, l, e, wanted)
	}
	same(t, "made anew", b, want)
	return b
}

// refuses fails the test unless Disk answers that error, and leaves the bench as it was.
func refuses(t *testing.T, b *bench.Bench, live []bool, d int, l layout, want api.Errno) {
	t.Helper()
	was := b.Clone()
	if e := disk(b, live, d, l); e != want {
		t.Errorf("Disk(%v, %d, %v): %d; want %d", live, d, l, e, want)
	}
	same(t, "refused", b, was)
}

// hasRows fails the test unless each row of a laid bench reads as it was laid.
func hasRows(t *testing.T, b *bench.Bench, live []bool, l layout) {
	t.Helper()
	for row := range api.Rows {
		g := l.of(row)
		if got, e := stripe.Read(b, live, g, row); e != api.OK || !alike(got, dataOf(g, row)) {
			t.Errorf("Read(%v, %v, %d): %x, %d; want %x", live, g, row, got, e, dataOf(g, row))
		}
	}
}

// hasDisk fails the test unless disk d has of each row what was laid there.
func hasDisk(t *testing.T, b *bench.Bench, d int, l layout) {
	t.Helper()
	for row := range api.Rows {
		if g := l.of(row); d < g.Disks {
			stands(t, b, d, api.Data+row, sectorsOf(g, row, dataOf(g, row))[d])
		}
	}
}

// stands fails the test unless x is what stands on disk d at that sector.
func stands(t *testing.T, b *bench.Bench, d, at int, x []byte) {
	t.Helper()
	if got, e := b.Read(d, at); e != api.OK || !bytes.Equal(got, x) {
		t.Errorf("Read %d, %d: %x, %d; want %x", d, at, got, e, x)
	}
}

// sectors is all that can be read on a bench, disk by disk, with the errors of the reads that fail.
func sectors(b *bench.Bench) []byte {
	var all []byte
	for d := range b.Len() {
		for at := range api.Size {
			x, e := b.Read(d, at)
			all = append(append(all, byte(e)), x...)
		}
	}
	return all
}

// same fails the test unless the benches can't be told from each other, now nor behind a crash that keeps nothing, or so
// many first ones of the pending writes.
func same(t *testing.T, name string, b, c *bench.Bench) {
	t.Helper()
	if b.Writes() != c.Writes() || b.Pending() != c.Pending() || b.Down() != c.Down() {
		t.Fatalf("%s: %d, %d, %v; want %d, %d, %v", name, b.Writes(), b.Pending(), b.Down(), c.Writes(), c.Pending(), c.Down())
	}
	if !bytes.Equal(sectors(b), sectors(c)) {
		t.Fatalf("%s: another sector", name)
	}
	for n := 0; n <= b.Pending(); n += 1 + b.Pending()/3 {
		x, y := b.Clone(), c.Clone()
		x.Crash(everyone(n)...)
		y.Crash(everyone(n)...)
		if !bytes.Equal(sectors(x), sectors(y)) {
			t.Fatalf("%s: another sector behind a crash that keeps %d", name, n)
		}
	}
}
