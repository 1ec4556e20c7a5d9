package rebuild_test

import (
	"math"
	"testing"

	"wattle/api"
	"wattle/bench"
)

// noDisk is disks that a bench of so many does not have: just past the bounds on both sides, and far past them.
func noDisk(disks int) []int {
	return []int{
		-1, -2, -disks, -disks - 1, math.MinInt32, -1 << 32, -1<<32 + 1, math.MinInt, math.MinInt + 1,
		disks, disks + 1, 8, 9, 16, 36, 52, 256, 256 + disks, math.MaxInt32, 1 << 32, 1<<32 + 1, math.MaxInt - 1, math.MaxInt,
	}
}

// noSplit is splits that there are not.
var noSplit = []int{
	-1, -2, -4, -15, -16, -17, math.MinInt32, -1 << 32, -1<<32 + 4, math.MinInt, math.MinInt + 1,
	17, 18, 20, 32, 36, 52, 256, 256 + 4, 1 << 32, 1<<32 + 4, math.MaxInt32, math.MaxInt - 1, math.MaxInt,
}

// busy is a laid bench with a few writes pending on each disk, at rows and at other sectors.
func busy(t *testing.T, l layout, disks int) *bench.Bench {
	t.Helper()
	b := laid(t, l, disks)
	for d := range disks {
		for i, at := range []int{api.SlotA, api.Log, api.Data + 5, api.Size - 1, api.Data + 5}[:2+d%4] {
			is(t, "Write by hand", b.Write(d, at, full(byte(d*16+i))), api.OK)
		}
	}
	return b
}

// P16.1, R1, R8: disks that there are not: ErrArg, whichever are live, with power and without.
func TestNoSuchDisk(t *testing.T) {
	for _, l := range few()[2:5] {
		for _, disks := range []int{1, l.disks(), api.MaxDisks} {
			b := busy(t, l, disks)
			for i, d := range append(noDisk(disks), noDisk(disks)...) {
				if d >= 0 && d < disks {
					continue
				}
				if i == len(noDisk(disks)) {
					cut(t, b)
				}
				for _, live := range [][]bool{nil, everyone(20), make([]bool, 20)} {
					refuses(t, b, live, d, l, api.ErrArg)
				}
			}
		}
	}
}

// P16.1: a disk that is live: ErrArg, also if it has failed, whichever others are live.
func TestLiveDisk(t *testing.T) {
	for _, l := range few() {
		b := busy(t, l, api.MaxDisks)
		for d := range api.MaxDisks {
			for _, live := range [][]bool{everyone(8), everyone(d + 1), everyone(20), append(make([]bool, d), true)} {
				refuses(t, b, live, d, l, api.ErrArg)
			}
			if d%3 == 1 {
				b.Fail(d)
				refuses(t, b, everyone(8), d, l, api.ErrArg)
			}
		}
	}
}

// P16.1: a disk that has failed: ErrFailed, with power and without, also where too many are gone, and where it is in no
// row.
func TestFailedDisk(t *testing.T) {
	for _, l := range few() {
		for d := range api.MaxDisks {
			b := busy(t, l, api.MaxDisks)
			b.Fail(d)
			for range 2 {
				for _, live := range [][]bool{but(8, d), but(d+1, d), everyone(d), nil, but(8, d, (d+1)%8, (d+2)%8)} {
					refuses(t, b, live, d, l, api.ErrFailed)
				}
				cut(t, b)
			}
		}
	}
}

// P16.1: geometries that may not be, as a: ErrArg, whatever the split is, also where no row is of it; as to: ErrArg where
// the split is not 0, and nothing at 0.
func TestBadGeometries(t *testing.T) {
	for i, no := range bad() {
		g := some()[i%len(some())]
		b, d := busy(t, layout{a: g}, api.MaxDisks), i%g.Disks
		for _, split := range []int{0, 1, 2 + i%14, api.Rows} {
			for _, to := range []api.Geom{g, no} {
				refuses(t, b, but(8, d), d, layout{no, to, split}, api.ErrArg)
			}
			if split != 0 {
				refuses(t, b, but(8, d), d, layout{g, no, split}, api.ErrArg)
			}
		}
		b.Crash()
		hasDisk(t, renews(t, b, but(8, d), d, layout{g, no, 0}, 0), d, layout{a: g})
	}
}

// P16.1: splits that there are not: ErrArg, of geometries alike and not; the least and the greatest that there are are
// none of them.
func TestNoSuchSplit(t *testing.T) {
	for _, l := range append(few(), layout{at(5, 4, 1), at(5, 4, 1), 0}) {
		if l.to == (api.Geom{}) {
			l.to = l.a
		}
		for d := range 3 {
			b := busy(t, l, api.MaxDisks)
			for _, l.split = range noSplit {
				refuses(t, b, but(8, d), d, l, api.ErrArg)
			}
			for _, l.split = range []int{0, api.Rows} {
				hasDisk(t, renews(t, laid(t, l, 8), but(8, d), d, l, 0), d, l)
			}
		}
	}
}

// P16.1, R2: of two wrong things at once ErrArg is told, whichever it is of; then that the disk has failed; then what the
// reading says: that there is no power, or that too many are gone.
func TestWhichError(t *testing.T) {
	for _, l := range few()[3:] {
		b := busy(t, l, api.MaxDisks)
		b.Fail(1)
		wrong := []layout{{api.Geom{}, l.to, l.split}, {l.a, api.Geom{}, l.split}, {l.a, l.to, -1}, {l.a, l.to, 17}, {l.a, api.Geom{}, -1}, {}}
		for range 2 {
			for _, x := range wrong {
				refuses(t, b, but(8, 1), 1, x, api.ErrArg) // it has failed
				refuses(t, b, but(8, 2), 2, x, api.ErrArg)
				refuses(t, b, nil, 2, x, api.ErrArg) // none is to be read
				refuses(t, b, everyone(8), 2, x, api.ErrArg)
				refuses(t, b, everyone(8), -1, x, api.ErrArg)
				refuses(t, b, nil, 8, x, api.ErrArg)
			}
			refuses(t, b, everyone(8), 1, l, api.ErrArg) // it is live, and has failed
			refuses(t, b, nil, 1, l, api.ErrFailed)
			refuses(t, b, nil, 8, l, api.ErrArg)
			refuses(t, b, nil, 2, l, api.ErrLost)
			cut(t, b)
		}
		// Without power a disk that is there can't be read: that is met ahead of how many are gone.
		refuses(t, b, but(8, 1), 1, l, api.ErrFailed)
		refuses(t, b, everyone(1), 2, l, api.ErrDown)
		refuses(t, b, but(8, 2, 3), 2, l, api.ErrDown) // 1 has failed, 0 is there
		refuses(t, b, everyone(1), 0, l, api.ErrArg)
		for d := range 8 {
			b.Fail(d)
		}
		refuses(t, b, but(8, 2), 2, l, api.ErrFailed)
		is(t, "Replace", b.Replace(2), api.OK)
		refuses(t, b, but(8, 2), 2, l, api.ErrLost)
	}
}

// P16.1: calls that were refused change nothing for the next one.
func TestAfterRefusal(t *testing.T) {
	for _, l := range few() {
		disks := l.disks()
		b := laid(t, l, disks)
		for d := range disks {
			is(t, "Fail", b.Fail(d), api.OK)
			refuses(t, b, but(disks, d), d, l, api.ErrFailed)
			is(t, "Replace", b.Replace(d), api.OK)
			refuses(t, b, everyone(disks), d, l, api.ErrArg)
			refuses(t, b, nil, d, l, api.ErrLost)
			refuses(t, b, but(disks, d), d, layout{a: l.a, to: l.to, split: 17}, api.ErrArg)
			b = renews(t, b, but(disks, d), d, l, 0)
			hasDisk(t, b, d, l)
		}
		hasRows(t, b, everyone(disks), l)
	}
}
