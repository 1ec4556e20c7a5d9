package stripe_test

import (
	"math"
	"slices"
	"testing"

	"wattle/api"
	"wattle/bench"
	"wattle/stripe"
)

// unwritten fails the test unless Write refuses, and the bench is as it was.
func unwritten(t *testing.T, b *bench.Bench, live []bool, g api.Geom, row int, data ...[]byte) {
	t.Helper()
	was := b.Clone()
	if e := stripe.Write(b, live, g, row, data...); e != api.ErrArg {
		t.Errorf("Write(%v, %v, %d, %x): %d", live, g, row, data, e)
	}
	same(t, "not written", b, was)
}

// P14.1, R1: geometries that may not be: Read and Write are ErrArg, One is ErrRange.
func TestBadGeometries(t *testing.T) {
	b := busy(t, at(5, 3, 1), api.MaxDisks)
	was := b.Clone()
	for _, g := range bad() {
		for _, live := range [][]bool{nil, everyone(3), everyone(api.MaxDisks)} {
			for _, n := range []int{0, 1, 15, -1, 16} {
				reads(t, b, live, g, n, nil, api.ErrArg)
				hasOne(t, b, live, g, n, nil, api.ErrRange)
				for _, size := range []int{0, 1, 2, 3, 6, 7} {
					is(t, "Write", stripe.Write(b, live, g, n, several(n, size)...), api.ErrArg)
				}
			}
		}
	}
	same(t, "bad geometries", b, was)
}

// P14.1, R8: rows that there are not, the one just behind the last and the one just ahead of the first among them: Read
// and Write are ErrArg, whichever disks are live, and whatever is asked beside.
func TestNoSuchRow(t *testing.T) {
	for _, g := range good() {
		b := busy(t, g, g.Disks)
		was := b.Clone()
		for _, row := range noRow {
			for _, live := range [][]bool{nil, everyone(1), everyone(g.Disks), everyone(20)} {
				reads(t, b, live, g, row, nil, api.ErrArg)
				is(t, "Write", stripe.Write(b, live, g, row, several(1, width(g))...), api.ErrArg)
			}
		}
		same(t, "no such row", b, was)
		for _, row := range []int{0, 15} { // the first and the last there are
			is(t, "Write", stripe.Write(b, everyone(g.Disks), g, row, several(row, width(g))...), api.OK)
			reads(t, b, everyone(g.Disks), g, row, several(row, width(g)), api.OK)
		}
	}
}

// P14.1, R8: sectors that there are not: One is ErrRange, whichever disks are live; the first and the last are there.
func TestNoSuchSector(t *testing.T) {
	for _, g := range good() {
		b, all := laid(t, g, g.Disks), order(g)
		last := len(all) - 1
		for _, live := range [][]bool{nil, everyone(1), everyone(g.Disks), everyone(20)} {
			for _, n := range []int{-1, -2, -16, -len(all), math.MinInt32, math.MinInt, math.MinInt + 1} {
				hasOne(t, b, live, g, n, nil, api.ErrRange)
			}
			for _, n := range []int{last + 1, last + 2, last + 17, 113, 128, 256, 1 << 16, 1 << 32, 1<<32 + 1, math.MaxInt32, math.MaxInt - 1, math.MaxInt} {
				hasOne(t, b, live, g, n, nil, api.ErrRange)
			}
		}
		hasOne(t, b, everyone(g.Disks), g, 0, dataOf(g, 0)[0], api.OK)
		hasOne(t, b, everyone(g.Disks), g, last, dataOf(g, 15)[width(g)-1], api.OK)
		b.Fail(all[0].disk)
		b.Limit(0)
		hasOne(t, b, everyone(g.Disks), g, 0, dataOf(g, 0)[0], api.OK)
	}
}

// P14.1: too few data sectors, too many, none, or one that is not of its form, at each place: ErrArg, whichever disks are
// live, also where none of them would be written.
func TestWrongData(t *testing.T) {
	for _, g := range some() {
		b := busy(t, g, g.Disks)
		for _, live := range [][]bool{everyone(g.Disks), nil} {
			for _, row := range []int{0, 15} {
				for n := range 2*g.Disks + 1 {
					if n != width(g) {
						unwritten(t, b, live, g, row, several(n, n)...)
					}
				}
				unwritten(t, b, live, g, row, sectorsOf(g, row, dataOf(g, row))...) // with its parity
				unwritten(t, b, live, g, row, make([][]byte, width(g))...)
				for k := range width(g) {
					for _, x := range [][]byte{nil, {}, mixed(1, 1), mixed(1, 16), mixed(1, 31), mixed(1, 33), mixed(1, 64), mixed(1, 288)} {
						data := several(row, width(g))
						data[k] = x
						unwritten(t, b, live, g, row, data...)
					}
					data := several(row, width(g))
					unwritten(t, b, live, g, row, slices.Delete(data, k, k+1)...)
				}
			}
		}
	}
}

// P14.1: of several that hold the first named is the answer: a wrong argument comes ahead of what is lost.
func TestWhichError(t *testing.T) {
	for _, g := range some() {
		b := newBench(t, 1)
		b.Fail(0)
		for _, live := range [][]bool{nil, everyone(1), everyone(8)} {
			reads(t, b, live, g, 16, nil, api.ErrArg)
			reads(t, b, live, at(g.Level, g.Disks, 3), 0, nil, api.ErrArg)
			reads(t, b, live, g, 0, nil, api.ErrLost)
			hasOne(t, b, live, g, width(g)*api.Rows, nil, api.ErrRange)
			hasOne(t, b, live, g, 0, nil, api.ErrLost)
			is(t, "Write", stripe.Write(b, live, g, 0, several(1, width(g)-1)...), api.ErrArg)
			is(t, "Write", stripe.Write(b, live, g, 0, several(1, width(g))...), api.OK)
			is(t, "Flush", stripe.Flush(b, live), api.OK)
		}
	}
}
