package window_test

import (
	"bytes"
	"math"
	"math/bits"
	"slices"
	"testing"

	"wattle/api"
	"wattle/bench"
	"wattle/window"
)

// What stands at a place of a chart, where it is no sector.
const (
	onP = -1
	onQ = -2
)

func at(level, disks, chunk int) api.Geom {
	return api.Geom{Level: level, Disks: disks, Chunk: chunk}
}

// budget is how many disks hold parity in a row, width how many hold data.
func budget(g api.Geom) int   { return g.Level - 4 }
func width(g api.Geom) int    { return g.Disks - budget(g) }
func capacity(g api.Geom) int { return width(g) * api.Rows }

// good is each geometry that may be.
func good() []api.Geom {
	var l []api.Geom
	for _, level := range []int{5, 6} {
		for disks := level - 2; disks <= api.MaxDisks; disks++ {
			for _, chunk := range []int{1, 2, 4} {
				l = append(l, at(level, disks, chunk))
			}
		}
	}
	return l
}

// bad is geometries that may not be: right ones, wrong in one number, and some wrong in more.
func bad() []api.Geom {
	l := []api.Geom{{}, at(0, 5, 1), at(5, 0, 1), at(5, 5, 0), at(6, 3, 1), at(6, 3, 2), at(6, 3, 4), at(-5, -3, -1),
		at(math.MaxInt, math.MaxInt, math.MaxInt), at(math.MinInt, math.MinInt, math.MinInt)}
	for _, n := range []int{-5, -1, 0, 1, 4, 7, 1<<8 + 5, 1<<32 + 6, math.MaxInt, math.MinInt + 5} {
		l = append(l, at(n, 3, 1), at(n, 4, 2), at(n, 8, 4))
	}
	for _, n := range []int{-4, -1, 0, 1, 2, 9, 10, 16, 1<<8 + 4, 1<<32 + 4, math.MaxInt, math.MinInt + 4} {
		l = append(l, at(5, n, 1), at(5, n, 4), at(6, n, 2), at(6, n, 4))
	}
	for _, n := range []int{-4, -1, 0, 3, 5, 8, 16, 1<<8 + 1, 1<<32 + 4, math.MaxInt, math.MinInt + 1} {
		l = append(l, at(5, 3, n), at(5, 8, n), at(6, 4, n), at(6, 8, n))
	}
	return l
}

// pair is a geometry and what it becomes.
type pair struct{ a, to api.Geom }

// can tells by the words of chapter 7 whether the pair, of geometries that may be, can.
func (p pair) can() bool {
	return p.a != p.to && p.to.Disks >= p.a.Disks && p.to.Level >= p.a.Level && width(p.to) >= width(p.a)
}

// pairs is each pair of geometries that may be, that can, or that can't.
func pairs(may bool) []pair {
	var l []pair
	for _, a := range good() {
		for _, to := range good() {
			if p := (pair{a, to}); p.can() == may {
				l = append(l, p)
			}
		}
	}
	return l
}

// few is pairs of each kind: more disks, other chunks, another level, and all of it; the last ones are of level 6.
func few() []pair {
	return []pair{
		{at(5, 3, 1), at(5, 4, 1)}, {at(5, 4, 2), at(5, 4, 4)}, {at(5, 5, 4), at(5, 5, 1)}, {at(5, 4, 1), at(6, 5, 1)},
		{at(5, 3, 2), at(5, 8, 1)}, {at(5, 3, 1), at(6, 8, 4)}, {at(6, 4, 1), at(6, 5, 2)}, {at(6, 5, 4), at(6, 5, 2)},
	}
}

// rows is how many rows a window has, by hand.
func (p pair) rows() int {
	switch {
	case p.a.Chunk == 4 || p.to.Chunk == 4:
		return 4
	case p.a.Chunk == 2 || p.to.Chunk == 2:
		return 2
	}
	return 1
}

// windows is how many windows there are, by hand.
func (p pair) windows() int {
	return map[int]int{1: 16, 2: 8, 4: 4}[p.rows()]
}

// size is how many sectors a window has.
func (p pair) size() int {
	return p.rows() * width(p.to)
}

// held is how many sectors of window k, from its first one on, a has.
func (p pair) held(k int) int {
	return min(max(capacity(p.a)-k*p.size(), 0), p.size())
}

// full is a sector of one byte.
func full(c byte) []byte {
	return bytes.Repeat([]byte{c}, api.Sector)
}

// mixed is n bytes, most of them unlike their neighbours, other ones for each seed.
func mixed(seed, n int) []byte {
	b := make([]byte, n)
	x := uint32(seed)*2654435761 + 12345
	for i := range b {
		x = x*1664525 + 1013904223
		b[i] = byte(x >> 24)
	}
	return b
}

// zeros is n sectors of zeros.
func zeros(n int) [][]byte {
	l := make([][]byte, n)
	for i := range l {
		l[i] = full(0)
	}
	return l
}

// several is n sectors of mixed bytes, other ones for each seed.
func several(seed, n int) [][]byte {
	l := make([][]byte, n)
	for k := range l {
		l[k] = mixed(5000+seed*32+k, api.Sector)
	}
	return l
}

// content is sector n, as laid has it; one past a's end is zeros.
func (p pair) content(n int) []byte {
	if n >= capacity(p.a) {
		return full(0)
	}
	return mixed(1000+n, api.Sector)
}

// contents is the sectors of window k.
func (p pair) contents(k int) [][]byte {
	l := make([][]byte, p.size())
	for i := range l {
		l[i] = p.content(k*p.size() + i)
	}
	return l
}

// twice is a times 2 in the field, reckoned here so that the tests hang on no other package's work.
func twice(a byte) byte {
	if a >= 128 {
		return a<<1 ^ 0x1D
	}
	return a << 1
}

// sums is P and Q of sectors: Q from the last on, doubled on the way to the first.
func sums(data [][]byte) (p, q []byte) {
	p, q = full(0), full(0)
	for k := len(data) - 1; k >= 0; k-- {
		for i, x := range data[k] {
			p[i] ^= x
			q[i] = twice(q[i]) ^ x
		}
	}
	return p, q
}

// chart is what stands in each row of a geometry on each disk, dealt out by walking stripe by stripe, disk by disk, and
// row by row: no number is parted.
func chart(g api.Geom) [][]int {
	l := make([][]int, api.Rows)
	for row := range l {
		l[row] = make([]int, g.Disks)
	}
	n, p := 0, g.Disks-1
	for first := 0; first < api.Rows; first += g.Chunk {
		disk := p
		for part := range g.Disks {
			for row := first; row < first+g.Chunk; row++ {
				switch {
				case part == 0:
					l[row][disk] = onP
				case part < budget(g):
					l[row][disk] = onQ
				default:
					l[row][disk] = n
					n++
				}
			}
			if disk++; disk == g.Disks {
				disk = 0
			}
		}
		if p--; p < 0 {
			p = g.Disks - 1
		}
	}
	return l
}

// sectorsOf is the disks' sectors of a row, of which the chart tells what stands where, and content what each sector is.
func sectorsOf(line []int, content func(n int) []byte) [][]byte {
	numbers := slices.DeleteFunc(slices.Sorted(slices.Values(line)), func(n int) bool { return n < 0 })
	data := make([][]byte, len(numbers))
	for k, n := range numbers {
		data[k] = content(n)
	}
	p, q := sums(data)
	l := make([][]byte, len(line))
	for disk, n := range line {
		switch n {
		case onP:
			l[disk] = p
		case onQ:
			l[disk] = q
		default:
			l[disk] = content(n)
		}
	}
	return l
}

func alike(a, b [][]byte) bool {
	return slices.EqualFunc(a, b, bytes.Equal)
}

// newBench is a new bench of so many disks.
func newBench(t *testing.T, disks int) *bench.Bench {
	t.Helper()
	b, e := bench.New(disks)
	if e != api.OK {
		t.Fatal("New", disks, e)
	}
	return b
}

// painted is a new bench of so many disks, each of whose sectors has bytes of its own.
func painted(t *testing.T, disks int) *bench.Bench {
	t.Helper()
	b := newBench(t, disks)
	for d := range disks {
		for at := range api.Size {
			set(t, b, d, at, mixed(d*api.Size+at, api.Sector))
		}
	}
	return b
}

// laid is a painted bench of so many disks, with each row as a has it; a row's sectors on disks past the bench's are
// nowhere.
func laid(t *testing.T, p pair, disks int) *bench.Bench {
	t.Helper()
	b := painted(t, disks)
	lay(t, b, p, p.a, 0, api.Rows)
	return b
}

// lay sets the rows from from on, below to, as the geometry has them, with the pair's contents.
func lay(t *testing.T, b *bench.Bench, p pair, g api.Geom, from, to int) {
	t.Helper()
	lines := chart(g)
	for row := from; row < to; row++ {
		for d, x := range sectorsOf(lines[row], p.content) {
			if d < b.Len() && !b.Failed(d) {
				set(t, b, d, api.Data+row, x)
			}
		}
	}
}

// layWindow sets the rows of window k as the new geometry has them.
func layWindow(t *testing.T, b *bench.Bench, p pair, k int) {
	t.Helper()
	lay(t, b, p, p.to, k*p.rows(), (k+1)*p.rows())
}

// everyone is a live of so many disks, all of them live.
func everyone(disks int) []bool {
	return slices.Repeat([]bool{true}, disks)
}

// but is a live of so many disks, all of them live but these.
func but(disks int, out ...int) []bool {
	l := everyone(disks)
	for _, d := range out {
		l[d] = false
	}
	return l
}

// choice is the lowest digits of x, as bools.
func choice(x, size int) []bool {
	l := make([]bool, size)
	for i := range l {
		l[i] = x>>i&1 == 1
	}
	return l
}

// digits is how many of x's digits are 1.
func digits(x int) int {
	return bits.OnesCount(uint(x))
}

// is fails the test unless the answer is the one wanted.
func is(t *testing.T, name string, got, want api.Errno) {
	t.Helper()
	if got != want {
		t.Errorf("%s: %d; want %d", name, got, want)
	}
}

// set sets a sector, as it stands behind a crash too.
func set(t *testing.T, b *bench.Bench, d, at int, x []byte) {
	t.Helper()
	is(t, "Damage", b.Damage(d, at, x), api.OK)
}

// stands fails the test unless x is what stands on disk d at that sector.
func stands(t *testing.T, b *bench.Bench, d, at int, x []byte) {
	t.Helper()
	if got, e := b.Read(d, at); e != api.OK || !bytes.Equal(got, x) {
		t.Errorf("Read %d, %d: %x, %d; want %x", d, at, got, e, x)
	}
}

// cut takes a bench's power away, and changes nothing else on it.
func cut(t *testing.T, b *bench.Bench) {
	t.Helper()
	b.Limit(0)
	for d := range b.Len() {
		b.Write(d, 0, full(0))
	}
	if !b.Down() {
		t.Fatal("there is power")
	}
}

// gone makes those disks go for which mask has a digit, by turns: not live, failed though live, failed and not live. It
// answers which disks are live.
func gone(b *bench.Bench, mask, turn int) []bool {
	live := everyone(b.Len())
	for d := range b.Len() {
		if mask>>d&1 == 0 {
			continue
		}
		how := (turn + d) % 3
		if how != 0 {
			b.Fail(d)
		}
		live[d] = how == 1
	}
	return live
}

// serves tells whether disk d can be read and written.
func serves(b *bench.Bench, live []bool, d int) bool {
	return d < b.Len() && d < len(live) && live[d] && !b.Failed(d)
}

// readable tells whether each sector of window k that a has can be found: on its own disk, or by its row's others.
func readable(b *bench.Bench, live []bool, p pair, k int) bool {
	for _, line := range chart(p.a) {
		missing := 0
		for d := range line {
			if !serves(b, live, d) {
				missing++
			}
		}
		for d, n := range line {
			if n >= k*p.size() && n < (k+1)*p.size() && !serves(b, live, d) && missing > budget(p.a) {
				return false
			}
		}
	}
	return true
}

// read is Read of a pair's window, write is Write.
func read(b *bench.Bench, live []bool, p pair, k int) ([][]byte, api.Errno) {
	return window.Read(b, live, p.a, p.to, k)
}

func write(b *bench.Bench, live []bool, p pair, k int, data [][]byte) api.Errno {
	return window.Write(b, live, p.a, p.to, k, data...)
}

// reads fails the test unless Read answers these sectors.
func reads(t *testing.T, b *bench.Bench, live []bool, p pair, k int, want [][]byte) {
	t.Helper()
	if got, e := read(b, live, p, k); e != api.OK || !alike(got, want) {
		t.Fatalf("Read(%v, %v, %d): %x, %d; want %x", live, p, k, got, e, want)
	}
}

// readsNone fails the test unless Read answers that error and nothing beside it, and leaves the bench as it was.
func readsNone(t *testing.T, b *bench.Bench, live []bool, p pair, k int, want api.Errno) {
	t.Helper()
	was := b.Clone()
	if got, e := read(b, live, p, k); e != want || len(got) != 0 {
		t.Fatalf("Read(%v, %v, %d): %x, %d; want %d", live, p, k, got, e, want)
	}
	same(t, "Read", b, was)
}

// writesNone fails the test unless Write answers that error, and leaves the bench as it was.
func writesNone(t *testing.T, b *bench.Bench, live []bool, p pair, k int, data [][]byte, want api.Errno) {
	t.Helper()
	was := b.Clone()
	if e := write(b, live, p, k, data); e != want {
		t.Fatalf("Write(%v, %v, %d, %d sectors): %d; want %d", live, p, k, len(data), e, want)
	}
	same(t, "Write", b, was)
}

// writes fails the test unless Write does just what is to be done by hand.
func writes(t *testing.T, b *bench.Bench, live []bool, p pair, k int, data [][]byte) {
	t.Helper()
	want := b.Clone()
	wanted := written(want, live, p, k, data)
	if e := write(b, live, p, k, data); e != wanted {
		t.Fatalf("Write(%v, %v, %d): %d; want %d", live, p, k, e, wanted)
	}
	same(t, "Write", b, want)
}

// written writes the rows of window k as the new geometry has them, of these sectors, and flushes them, all by hand. It
// ends when the power goes.
func written(b *bench.Bench, live []bool, p pair, k int, data [][]byte) api.Errno {
	for row, line := range chart(p.to) {
		if row < k*p.rows() || row >= (k+1)*p.rows() {
			continue
		}
		for d, x := range sectorsOf(line, func(n int) []byte { return data[n-k*p.size()] }) {
			if serves(b, live, d) && b.Write(d, api.Data+row, x) != api.OK {
				return api.ErrDown
			}
		}
	}
	for d := range min(len(live), b.Len()) {
		if live[d] && b.Flush(d) == api.ErrDown {
			return api.ErrDown
		}
	}
	return api.OK
}

// moves fails the test unless window k is read as its contents are, and written.
func moves(t *testing.T, b *bench.Bench, live []bool, p pair, k int) {
	t.Helper()
	data, e := read(b, live, p, k)
	if e != api.OK || !alike(data, p.contents(k)) {
		t.Fatalf("Read(%v, %v, %d): %x, %d; want %x", live, p, k, data, e, p.contents(k))
	}
	if e := write(b, live, p, k, data); e != api.OK || b.Pending() != 0 {
		t.Fatalf("Write(%v, %v, %d): %d, %d pending", live, p, k, e, b.Pending())
	}
}

// sectors is all that can be read on a bench, disk by disk, with the errors of the reads that fail.
func sectors(b *bench.Bench) []byte {
	var all []byte
	for d := range b.Len() {
		for at := range api.Size {
			x, e := b.Read(d, at)
			all = append(append(all, byte(e)), x...)
		}
	}
	return all
}

// sameSectors fails the test unless the benches have the same sectors, now and behind a crash that keeps nothing.
func sameSectors(t *testing.T, name string, b, c *bench.Bench) {
	t.Helper()
	x, y := b.Clone(), c.Clone()
	x.Crash()
	y.Crash()
	if !bytes.Equal(sectors(b), sectors(c)) || !bytes.Equal(sectors(x), sectors(y)) {
		t.Fatalf("%s: another sector", name)
	}
}

// same fails the test unless the benches can't be told from each other, now nor behind a crash that keeps nothing, or so
// many first ones of the pending writes; nor by how many writes are left till the power goes.
func same(t *testing.T, name string, b, c *bench.Bench) {
	t.Helper()
	if b.Writes() != c.Writes() || b.Pending() != c.Pending() || b.Down() != c.Down() {
		t.Fatalf("%s: %d, %d, %v; want %d, %d, %v", name, b.Writes(), b.Pending(), b.Down(), c.Writes(), c.Pending(), c.Down())
	}
	if !bytes.Equal(sectors(b), sectors(c)) {
		t.Fatalf("%s: another sector", name)
	}
	for n := 0; n <= b.Pending(); n += 1 + b.Pending()/3 {
		x, y := b.Clone(), c.Clone()
		x.Crash(everyone(n)...)
		y.Crash(everyone(n)...)
		if !bytes.Equal(sectors(x), sectors(y)) {
			t.Fatalf("%s: another sector behind a crash that keeps %d", name, n)
		}
	}
	x, y := b.Clone(), c.Clone()
	for i := range 5 {
		if e, f := x.Write(i%b.Len(), 0, full(1)), y.Write(i%b.Len(), 0, full(1)); e != f {
			t.Fatalf("%s: another limit: %d, %d", name, e, f)
		}
	}
}
