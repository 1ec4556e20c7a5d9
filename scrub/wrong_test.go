package scrub_test

import (
	"math"
	"testing"

	"wattle/api"
	"wattle/bench"
)

// noSplit is splits that there are not: just past the bounds on both sides, and far past them.
var noSplit = []int{
	-1, -2, -4, -15, -16, -17, math.MinInt32, -1 << 32, -1<<32 + 4, math.MinInt, math.MinInt + 1,
	17, 18, 20, 32, 36, 52, 256, 256 + 4, 1 << 32, 1<<32 + 4, math.MaxInt32, math.MaxInt - 1, math.MaxInt,
}

// busy is a laid bench with each row spoilt, and a few writes pending on each disk, at rows and at other sectors.
func busy(t *testing.T, l layout, disks int) *bench.Bench {
	t.Helper()
	b := laid(t, l, disks)
	spoil(t, b, l, 0xFFFF, -1)
	for d := range disks {
		for i, at := range []int{api.SlotA, api.Log, api.Data + 5, api.Size - 1, api.Data + 5}[:2+d%4] {
			is(t, "Write by hand", b.Write(d, at, full(byte(d*16+i))), api.OK)
		}
	}
	return b
}

// P17.1: geometries that may not be, as a: ErrArg, whatever the split is, also where no row is of it; as to: ErrArg where
// the split is not 0, and nothing at 0; whichever disks are live.
func TestBadGeometries(t *testing.T) {
	all := good()
	for i, no := range bad() {
		g := all[i%len(all)]
		b := busy(t, layout{a: g}, api.MaxDisks)
		for _, split := range []int{0, 1, 2 + i%14, api.Rows} {
			for _, live := range [][]bool{everyone(8), nil, but(8, i%8)} {
				for _, to := range []api.Geom{g, no} {
					refuses(t, b, live, layout{no, to, split}, api.ErrArg)
				}
				if split != 0 {
					refuses(t, b, live, layout{g, no, split}, api.ErrArg)
				}
			}
		}
		tells(t, b, everyone(8), layout{g, no, 0}, wanted(b, everyone(8), layout{a: g})...)
		tells(t, b, nil, layout{g, no, 0})
	}
}

// P17.1, R8: splits that there are not: ErrArg, of geometries alike and not; the least and the greatest that there are are
// none of them.
func TestNoSuchSplit(t *testing.T) {
	for _, l := range append(few(), layout{at(5, 4, 1), at(5, 4, 1), 0}) {
		if l.to == (api.Geom{}) {
			l.to = l.a
		}
		b := busy(t, l, api.MaxDisks)
		for _, l.split = range noSplit {
			refuses(t, b, everyone(8), l, api.ErrArg)
			refuses(t, b, nil, l, api.ErrArg)
		}
		for _, l.split = range []int{0, api.Rows} {
			b := laid(t, l, api.MaxDisks)
			tells(t, b, everyone(8), l)
			spoil(t, b, l, 0xFFFF, -1)
			tells(t, b, everyone(8), l, allRows()...)
		}
	}
}

// P17.1: without power: ErrDown, also where all rows are to be passed over, or none is spoilt; behind a crash all is told.
func TestNoPower(t *testing.T) {
	for _, l := range append(few(), pairs()...) {
		disks := l.disks()
		for _, spoilt := range []int{0, 0x8001, 0xFFFF} {
			b := laid(t, l, disks)
			spoil(t, b, l, spoilt, -1)
			cut(t, b)
			for _, live := range [][]bool{everyone(disks), everyone(20), but(disks, disks-1), everyone(disks - 1), make([]bool, disks), {}, nil} {
				refuses(t, b, live, l, api.ErrDown)
			}
			c := b.Clone()
			c.Crash()
			tells(t, c, everyone(disks), l, rowsIn(spoilt)...)
			for d := range disks {
				b.Fail(d)
				refuses(t, b, everyone(disks), l, api.ErrDown)
			}
			b.Crash()
			tells(t, b, everyone(disks), l)
		}
	}
}

// P17.1: without power, with fewer disks than any row has: ErrDown.
func TestNoPowerFewerDisks(t *testing.T) {
	for _, g := range good() {
		for disks := 1; disks < g.Disks; disks++ {
			b := laid(t, layout{a: g}, disks)
			tells(t, b, everyone(8), layout{a: g})
			cut(t, b)
			refuses(t, b, everyone(8), layout{a: g}, api.ErrDown)
			refuses(t, b, everyone(8), layout{at(5, 8, 1), g, api.Rows}, api.ErrDown)
		}
	}
}

// P17.1, R2: of two wrong things at once ErrArg is told, whichever it is of; then that there is no power; disks that are
// gone are no error.
func TestWhichError(t *testing.T) {
	for _, l := range few()[3:] {
		b := busy(t, l, api.MaxDisks)
		wrong := []layout{
			{api.Geom{}, l.to, l.split}, {l.a, api.Geom{}, l.split}, {l.a, l.to, -1}, {l.a, l.to, 17}, {l.a, api.Geom{}, -1},
			{api.Geom{}, l.to, 17}, {api.Geom{}, api.Geom{}, 0}, {api.Geom{}, l.to, 0}, {},
		}
		for round := range 3 {
			for _, live := range [][]bool{everyone(8), but(8, 0), everyone(1), nil} {
				for _, x := range wrong {
					refuses(t, b, live, x, api.ErrArg)
				}
				if round > 0 {
					refuses(t, b, live, l, api.ErrDown)
				}
			}
			if round == 1 {
				b.Fail(0)
			}
			if round == 0 {
				cut(t, b)
			}
		}
	}
}

// P17.1: calls that were refused change nothing for the next one.
func TestAfterRefusal(t *testing.T) {
	for _, l := range few() {
		disks := l.disks()
		b := laid(t, l, disks)
		for line := range api.Rows {
			turn(t, b, 1, line, 0, 1)
			refuses(t, b, everyone(disks), layout{api.Geom{}, l.to, l.split}, api.ErrArg)
			refuses(t, b, everyone(disks), layout{l.a, l.to, 17}, api.ErrArg)
			tells(t, b, everyone(disks), l, allRows()[:line+1]...)
			cut(t, b)
			refuses(t, b, everyone(disks), l, api.ErrDown)
			b.Crash()
			tells(t, b, everyone(disks), l, allRows()[:line+1]...)
		}
	}
}
