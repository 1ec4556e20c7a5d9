package update_test

import (
	"math"
	"testing"

	"wattle/api"
	"wattle/bench"
	"wattle/record"
	"wattle/update"
)

// noNumber is numbers that no Record has.
var noNumber = []int{
	0, -1, -2, -255, math.MinInt32, -1 << 32, -1<<32 + 1, math.MinInt, math.MinInt + 1,
	greatest + 1, greatest + 2, 1 << 32, 1<<32 + 1, 1<<40 + 5, math.MaxInt - 1, math.MaxInt,
}

// busy is a laid bench with a few writes pending on each disk, none of them in a row.
func busy(t *testing.T, g api.Geom) *bench.Bench {
	t.Helper()
	b := laid(t, g, g.Disks)
	for d := range g.Disks {
		for i, at := range []int{api.SlotA, api.Log, api.Backup, api.Log + 3}[:1+d%4] {
			is(t, "Write by hand", b.Write(d, at, full(byte(d*16+i))), api.OK)
		}
	}
	return b
}

// P15.1: x of another length than a sector: ErrArg, whatever is asked beside.
func TestWrongSector(t *testing.T) {
	for _, g := range some() {
		b := busy(t, g)
		for _, x := range [][]byte{nil, {}, mixed(1, 1), mixed(1, 31), full(1)[:31], mixed(1, 33), mixed(1, 64), mixed(1, 288)} {
			for _, live := range [][]bool{everyone(g.Disks), nil, everyone(1)} {
				for _, n := range []int{0, 5, -1, width(g) * api.Rows, math.MaxInt} {
					refuses(t, b, live, g, n, x, 1, api.ErrArg)
				}
				refuses(t, b, live, g, 0, x, 0, api.ErrArg)
				refuses(t, b, live, api.Geom{}, 0, x, 1, api.ErrArg)
			}
		}
	}
}

// P15.1, R8: sectors that there are not: ErrRange, whichever disks are live; the first and the last are there.
func TestNoSuchSector(t *testing.T) {
	for _, g := range good() {
		b, last := busy(t, g), len(order(g))-1
		for _, live := range [][]bool{everyone(g.Disks), nil} {
			for _, n := range []int{-1, -2, -16, -last - 1, math.MinInt32, -1 << 32, math.MinInt, math.MinInt + 1} {
				refuses(t, b, live, g, n, full(1), 1, api.ErrRange)
			}
			for _, n := range []int{last + 1, last + 2, last + 17, 113, 128, 256, 1 << 16, 1 << 32, 1<<32 + 1, math.MaxInt32, math.MaxInt} {
				refuses(t, b, live, g, n, full(1), 1, api.ErrRange)
			}
		}
		for i, n := range []int{0, last} {
			x := full(byte(i + 1))
			does(t, b, everyone(g.Disks), g, n, x, i+1)
			there(t, b, everyone(g.Disks), g, order(g)[n], x, 0)
		}
	}
}

// P15.1, R1: geometries that may not be have no sectors: ErrRange.
func TestBadGeometries(t *testing.T) {
	b := busy(t, at(5, 8, 1))
	for i, g := range bad() {
		for _, live := range [][]bool{nil, everyone(api.MaxDisks)} {
			for _, n := range []int{0, i%18 - 1} {
				refuses(t, b, live, g, n, full(1), 1, api.ErrRange)
			}
		}
	}
}

// P15.1: numbers that no Record may have: Plan, which asks nothing of them, has the record number seq all the same; Do and
// Empty are ErrArg, and write nothing.
func TestWrongNumbers(t *testing.T) {
	for _, g := range some() {
		b, s := busy(t, g), order(g)[4]
		for _, seq := range noNumber {
			plans(t, b, everyone(g.Disks), g, 4, full(3), seq, planned(g, s, changed(g, s, full(3)), 0, seq), api.OK)
			was := b.Clone()
			is(t, "Do", update.Do(b, everyone(g.Disks), g, 4, full(3), seq), api.ErrArg)
			for _, live := range [][]bool{nil, everyone(1), everyone(g.Disks)} {
				is(t, "Empty", update.Empty(b, live, seq), api.ErrArg)
			}
			same(t, "not done", b, was)
		}
	}
}

// P15.1: of two wrong things at once the first named is told: x, the sector, its row, and then the record's number.
func TestWhichError(t *testing.T) {
	for _, g := range some() {
		b, past := busy(t, g), len(order(g))
		for _, seq := range []int{0, -1, greatest + 1, 1} {
			for _, live := range [][]bool{nil, everyone(1), everyone(g.Disks)} {
				refuses(t, b, live, g, past, full(1)[:31], seq, api.ErrArg)
				refuses(t, b, live, g, past, full(1), seq, api.ErrRange)
				refuses(t, b, live, api.Geom{}, 0, full(1), seq, api.ErrRange)
			}
			refuses(t, b, everyone(1), g, 0, full(1)[:31], seq, api.ErrArg)
			refuses(t, b, everyone(1), g, 0, full(1), seq, api.ErrLost)
		}
		for d := range g.Disks {
			b.Fail(d)
		}
		refuses(t, b, everyone(g.Disks), g, 0, full(1), 0, api.ErrLost)
		is(t, "Empty", update.Empty(b, everyone(g.Disks), 0), api.ErrArg)
		is(t, "Empty", update.Empty(b, everyone(g.Disks), 1), api.OK)
	}
}

// P15.1: a Plan that was refused, or not done, changes nothing for the next one.
func TestAfterRefusal(t *testing.T) {
	for _, g := range some() {
		b, s := laid(t, g, g.Disks), order(g)[6]
		for i := range 4 {
			x := full(byte(i + 1))
			update.Do(b, everyone(g.Disks), g, 6, full(99), 0)
			update.Do(b, everyone(1), g, 6, full(98), 1)
			update.Do(b, everyone(g.Disks), g, len(order(g)), full(97), 1)
			r := planned(g, s, changed(g, s, x), 0, i+1)
			plans(t, b, everyone(g.Disks), g, 6, x, i+1, r, api.OK)
			does(t, b, everyone(g.Disks), g, 6, x, i+1)
			newest(t, b, everyone(g.Disks), r)
		}
		is(t, "Empty", update.Empty(b, everyone(g.Disks), 5), api.OK)
		newest(t, b, everyone(g.Disks), record.Record{Seq: 5})
	}
}
