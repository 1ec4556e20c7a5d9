package row_test

import (
	"bytes"
	"math"
	"slices"
	"strconv"
	"strings"
	"testing"

	"wattle/api"
	"wattle/row"
)

const (
	onP = -1
	onQ = -2
)

// none is rows that no geometry has: just past the bounds on both sides, and far past them.
var none = []int{
	-1, -2, -3, -4, -8, -15, -16, -17, math.MinInt32, -1 << 32, math.MinInt, math.MinInt + 1, math.MinInt + 4, math.MinInt + 16,
	16, 17, 18, 20, 31, 32, 36, 52, 255, 256, 256 + 3, 1 << 16, math.MaxInt32, 1 << 32, 1<<32 + 1, math.MaxInt - 1, math.MaxInt,
}

func at(level, disks, chunk int) api.Geom {
	return api.Geom{Level: level, Disks: disks, Chunk: chunk}
}

// budget is how many disks hold parity in a row, width how many hold data.
func budget(g api.Geom) int { return g.Level - 4 }
func width(g api.Geom) int  { return g.Disks - budget(g) }

// good is each geometry that may be.
func good() []api.Geom {
	var l []api.Geom
	for _, level := range []int{5, 6} {
		for disks := level - 2; disks <= api.MaxDisks; disks++ {
			for _, chunk := range []int{1, 2, 4} {
				l = append(l, at(level, disks, chunk))
			}
		}
	}
	return l
}

// bad is geometries that may not be: right ones, wrong in one number, and some wrong in more.
func bad() []api.Geom {
	l := []api.Geom{{}, at(0, 5, 1), at(5, 0, 1), at(5, 5, 0), at(math.MaxInt, math.MaxInt, math.MaxInt), at(math.MinInt, math.MinInt, math.MinInt), at(-5, -3, -1)}
	for _, n := range []int{-1, -5, -6, 0, 1, 4, 7, 8, 56, 1<<8 + 5, 1<<32 + 5, 1<<32 + 6, math.MaxInt, math.MinInt, math.MinInt + 5} {
		l = append(l, at(n, 3, 1), at(n, 4, 2), at(n, 8, 4))
	}
	for _, n := range []int{-8, -4, -3, -1, 0, 1, 2, 9, 10, 16, 1<<8 + 3, 1<<32 + 4, math.MaxInt, math.MinInt, math.MinInt + 4} {
		l = append(l, at(5, n, 1), at(5, n, 4), at(6, n, 2), at(6, n, 4))
	}
	l = append(l, at(6, 3, 1), at(6, 3, 2), at(6, 3, 4))
	for _, n := range []int{-4, -2, -1, 0, 3, 5, 6, 7, 8, 16, 1<<8 + 1, 1<<32 + 2, 1<<32 + 4, math.MaxInt, math.MinInt, math.MinInt + 1} {
		l = append(l, at(5, 3, n), at(5, 8, n), at(6, 4, n), at(6, 8, n))
	}
	return l
}

// full is a sector of one byte.
func full(c byte) []byte {
	return bytes.Repeat([]byte{c}, api.Sector)
}

// mixed is n bytes, most of them unlike their neighbours, other ones for each seed.
func mixed(seed, n int) []byte {
	b := make([]byte, n)
	x := uint32(seed)*2654435761 + 12345
	for i := range b {
		x = x*1664525 + 1013904223
		b[i] = byte(x >> 24)
	}
	return b
}

// several is n sectors of mixed bytes, other ones for each seed.
func several(seed, n int) [][]byte {
	l := make([][]byte, n)
	for k := range l {
		l[k] = mixed(seed*16+k, api.Sector)
	}
	return l
}

// twice is a times 2 in the field, reckoned here so that the tests hang on no other package's work.
func twice(a byte) byte {
	if a >= 128 {
		return a<<1 ^ 0x1D
	}
	return a << 1
}

// sums is P and Q of sectors: Q from the last on, doubled on the way to the first.
func sums(data [][]byte) (p, q []byte) {
	p, q = full(0), full(0)
	for k := len(data) - 1; k >= 0; k-- {
		for i, x := range data[k] {
			p[i] ^= x
			q[i] = twice(q[i]) ^ x
		}
	}
	return p, q
}

// deal is what stands on each disk in a row, a data chunk's number or parity, found by walking stripe by stripe and disk
// by disk: no number is parted.
func deal(g api.Geom, row int) []int {
	p := g.Disks - 1
	for last := g.Chunk; last <= row; last += g.Chunk {
		if p--; p < 0 {
			p = g.Disks - 1
		}
	}
	l := make([]int, g.Disks)
	disk := p
	for part := range g.Disks {
		switch {
		case part == 0:
			l[disk] = onP
		case part < budget(g):
			l[disk] = onQ
		default:
			l[disk] = part - budget(g)
		}
		if disk++; disk == g.Disks {
			disk = 0
		}
	}
	return l
}

// read is what a line of a chart says of each disk.
func read(t *testing.T, line string) []int {
	t.Helper()
	var l []int
	for _, word := range strings.Fields(line) {
		n, err := strconv.Atoi(word)
		switch {
		case word == "P":
			n = onP
		case word == "Q":
			n = onQ
		case err != nil:
			t.Fatal(err)
		}
		l = append(l, n)
	}
	return l
}

// laid is the disks' sectors of a row with that on its disks, of this data.
func laid(what []int, data [][]byte) [][]byte {
	p, q := sums(data)
	l := make([][]byte, len(what))
	for disk, k := range what {
		switch k {
		case onP:
			l[disk] = p
		case onQ:
			l[disk] = q
		default:
			l[disk] = data[k]
		}
	}
	return copied(l)
}

// sectorsOf is the disks' sectors of a row, of this data.
func sectorsOf(g api.Geom, row int, data [][]byte) [][]byte {
	return laid(deal(g, row), data)
}

// copied is another list of the same sectors, in memory of its own.
func copied(l [][]byte) [][]byte {
	c := make([][]byte, len(l))
	for i, x := range l {
		c[i] = slices.Clone(x)
	}
	return c
}

// without is another list of the same sectors, of which those whose digit in gone is 1 are missing: nil, empty, or empty
// with bytes behind, by turns.
func without(l [][]byte, gone int) [][]byte {
	left := slices.Clone(l)
	for i := range left {
		if gone>>i&1 == 1 {
			left[i] = [][]byte{nil, {}, mixed(i, api.Sector)[:0]}[(i+gone)%3]
		}
	}
	return left
}

// digits is how many digits of x are 1.
func digits(x int) int {
	n := 0
	for ; x > 0; x >>= 1 {
		n += x & 1
	}
	return n
}

// with is another list of the same sectors, but this one at that place.
func with(l [][]byte, i int, x []byte) [][]byte {
	c := slices.Clone(l)
	c[i] = x
	return c
}

func alike(a, b [][]byte) bool {
	return slices.EqualFunc(a, b, bytes.Equal)
}

// stands fails the test unless Fill of the data is the sectors, Take of these is the data, and they are Right.
func stands(t *testing.T, g api.Geom, r int, data, sectors [][]byte) {
	t.Helper()
	if got, ok := row.Fill(g, r, data...); !ok || !alike(got, sectors) {
		t.Errorf("Fill(%v, %d, %x): %x, %v; want %x", g, r, data, got, ok, sectors)
	}
	takes(t, g, r, sectors, data)
	if !row.Right(g, r, sectors...) {
		t.Errorf("Right(%v, %d, %x) is false", g, r, sectors)
	}
}

// takes fails the test unless Take of the sectors is the data.
func takes(t *testing.T, g api.Geom, r int, sectors, data [][]byte) {
	t.Helper()
	if got, ok := row.Take(g, r, sectors...); !ok || !alike(got, data) {
		t.Errorf("Take(%v, %d, %x): %x, %v; want %x", g, r, sectors, got, ok, data)
	}
}

// unfilled fails the test unless Fill of the data is false, with nothing beside it.
func unfilled(t *testing.T, g api.Geom, r int, data ...[]byte) {
	t.Helper()
	if got, ok := row.Fill(g, r, data...); ok || len(got) != 0 {
		t.Errorf("Fill(%v, %d, %x): %x, %v", g, r, data, got, ok)
	}
}

// untaken fails the test unless Take of the sectors is false, with nothing beside it, and they are not Right.
func untaken(t *testing.T, g api.Geom, r int, sectors ...[]byte) {
	t.Helper()
	if got, ok := row.Take(g, r, sectors...); ok || len(got) != 0 {
		t.Errorf("Take(%v, %d, %x): %x, %v", g, r, sectors, got, ok)
	}
	wrong(t, g, r, sectors)
}

// wrong fails the test unless the sectors are not Right.
func wrong(t *testing.T, g api.Geom, r int, sectors [][]byte) {
	t.Helper()
	if row.Right(g, r, sectors...) {
		t.Errorf("Right(%v, %d, %x) is true", g, r, sectors)
	}
}
