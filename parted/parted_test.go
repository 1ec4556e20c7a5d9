package parted_test

import (
	"math"
	"testing"

	"wattle/api"
	"wattle/parted"
)

func at(level, disks, chunk int) api.Geom {
	return api.Geom{Level: level, Disks: disks, Chunk: chunk}
}

// good is each geometry that may be.
func good() []api.Geom {
	var l []api.Geom
	for _, level := range []int{5, 6} {
		for disks := level - 2; disks <= api.MaxDisks; disks++ {
			for _, chunk := range []int{1, 2, 4} {
				l = append(l, at(level, disks, chunk))
			}
		}
	}
	return l
}

// bad is geometries that may not be.
func bad() []api.Geom {
	return []api.Geom{
		{}, at(4, 5, 1), at(7, 5, 1), at(5, 2, 1), at(5, 9, 2), at(6, 3, 4), at(6, 9, 1), at(5, 5, 0), at(5, 5, 3), at(6, 6, 8),
		at(-5, -5, -1), at(1<<32+5, 4, 1), at(math.MaxInt, math.MaxInt, math.MaxInt), at(math.MinInt, math.MinInt, math.MinInt),
	}
}

// noSplit is splits that there are not.
var noSplit = []int{
	-1, -2, -16, math.MinInt32, -1<<32 + 4, math.MinInt, 17, 18, 32, 52, 256 + 4, 1 << 32, 1<<32 + 4, math.MaxInt - 1, math.MaxInt,
}

// Of each two geometries that may be, alike or not, rows may be parted at each split there is, and at no other.
func TestMayBe(t *testing.T) {
	for _, a := range good() {
		for _, to := range good() {
			for split := range api.Rows + 1 {
				if e := parted.Check(a, to, split); e != api.OK {
					t.Error(a, to, split, e)
				}
			}
			for _, split := range noSplit {
				if e := parted.Check(a, to, split); e != api.ErrArg {
					t.Error(a, to, split, e)
				}
			}
		}
	}
}

// A geometry that may not be: as a never, as to only where no row is of it.
func TestMayNotBe(t *testing.T) {
	for _, g := range good() {
		for _, no := range bad() {
			for _, split := range append([]int{0, 1, 4, 15, 16}, noSplit...) {
				for _, to := range []api.Geom{g, no} {
					if e := parted.Check(no, to, split); e != api.ErrArg {
						t.Error(no, to, split, e)
					}
				}
				if e := parted.Check(g, no, split); (e == api.OK) != (split == 0) || (e == api.ErrArg) != (split != 0) {
					t.Error(g, no, split, e)
				}
			}
		}
	}
}

// The rows below the split are of to, those from it on of a.
func TestOf(t *testing.T) {
	a, to := at(5, 3, 1), at(6, 8, 4)
	for split := range api.Rows + 1 {
		for row := range split {
			if parted.Of(a, to, split, row) != to {
				t.Error(split, row)
			}
		}
		for row := split; row < api.Rows; row++ {
			if parted.Of(a, to, split, row) != a {
				t.Error(split, row)
			}
		}
	}
}
