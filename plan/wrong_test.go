package plan_test

import (
	"math"
	"testing"

	"wattle/api"
)

// past is numbers of windows past all that there are; some are one that there is, but for digits that a smaller number
// would lose, and of some the product with a window's size would be one.
var past = []int{
	17, 18, 20, 28, 32, 48, 64, 112, 255, 256, 1<<8 + 1, 1 << 16, 1<<16 + 3, 1<<31 - 1, 1 << 31, 1 << 32, 1<<32 + 1, 1<<32 + 4,
	1 << 58, 1<<58 + 1, 1 << 59, 1 << 60, 1<<60 + 2, 1 << 61, 1<<61 + 1, 1 << 62, 1<<62 + 1, 1<<62 + 3,
	math.MaxInt/28 + 1, math.MaxInt/7 + 1, math.MaxInt/3 + 1, math.MaxInt/2 + 1, math.MaxInt - 16, math.MaxInt - 1, math.MaxInt,
}

// below is numbers of windows below 0.
var below = []int{
	-1, -2, -3, -4, -8, -16, -17, -28, -112, -255, -256, -256 + 1, -1 << 31, -1<<31 + 1, -1 << 32, -1<<32 + 1, -1<<32 + 4,
	-1 << 58, -1 << 60, -1<<60 + 1, -1 << 61, -1 << 62, -1<<62 + 1, -1<<62 + 3,
	math.MinInt / 28, math.MinInt / 7, math.MinInt / 3, math.MinInt / 2, math.MinInt + 16, math.MinInt + 1, math.MinInt,
}

// refused fails the test unless there is nothing of this pair, at any k.
func refused(t *testing.T, a, b api.Geom) {
	t.Helper()
	p := pair{a, b}
	sizes(t, p, 0, 0)
	for k := range 18 {
		spans(t, p, k, 0, 0)
		stands(t, p, k, 0)
	}
	for _, l := range [][]int{past, below} {
		for _, k := range l {
			spans(t, p, k, 0, 0)
			stands(t, p, k, 0)
		}
	}
}

// P18.1, wrong inputs, named one by one: pairs of geometries that may be, and can't.
func TestRefusedNamed(t *testing.T) {
	for _, p := range []pair{
		{at(5, 3, 1), at(5, 3, 1)}, // alike
		{at(6, 8, 4), at(6, 8, 4)},
		{at(5, 4, 1), at(5, 3, 1)}, // fewer disks
		{at(5, 8, 1), at(5, 3, 4)},
		{at(6, 5, 2), at(6, 4, 2)},
		{at(6, 4, 1), at(5, 4, 1)}, // a lower level
		{at(6, 4, 1), at(5, 8, 2)},
		{at(6, 5, 2), at(5, 5, 1)},
		{at(5, 4, 1), at(6, 4, 1)}, // a smaller width
		{at(5, 8, 2), at(6, 8, 4)},
		{at(5, 5, 4), at(6, 5, 1)},
	} {
		refused(t, p.a, p.b)
	}
}

// P18.1, wrong inputs: each pair of geometries that may be, and can't.
func TestRefusedAll(t *testing.T) {
	l := pairs(false)
	if len(l) != 33*33-(171+120+135) {
		t.Errorf("%d pairs", len(l))
	}
	for _, p := range l {
		refused(t, p.a, p.b)
	}
}

// P18.1, R1, wrong inputs: geometries that may not be, as a, as b, and as both.
func TestRefusedGeometries(t *testing.T) {
	wrong := bad()
	for i, no := range wrong {
		for _, g := range good() {
			refused(t, no, g)
			refused(t, g, no)
		}
		refused(t, no, no)
		refused(t, no, wrong[(i+1)%len(wrong)])
		refused(t, wrong[(i+1)%len(wrong)], no)
		if t.Failed() {
			return
		}
	}
}

// P18.1, wrong inputs: a pair that can, made wrong in one number alone, on either side.
func TestRefusedOneWrong(t *testing.T) {
	low, high := at(5, 3, 2), at(6, 8, 2)
	sizes(t, pair{low, high}, 2, 8)
	for _, n := range []int{-4, -1, 0, 3, 5, 6, 7, 8, 12, 16, 1<<8 + 2, 1<<32 + 2, math.MaxInt, math.MinInt} {
		refused(t, at(5, 3, n), high)
		refused(t, low, at(6, 8, n))
	}
	for _, n := range []int{-3, 0, 2, 9, 1<<8 + 3, 1<<32 + 8, math.MaxInt, math.MinInt} {
		refused(t, at(5, n, 2), high)
		refused(t, low, at(6, n, 2))
	}
	for _, n := range []int{-5, 0, 4, 7, 1<<8 + 5, 1<<32 + 6, math.MaxInt, math.MinInt} {
		refused(t, at(n, 3, 2), high)
		refused(t, low, at(n, 8, 2))
	}
}

// P18.1, R8, the edges: the last window, the end (Span has nothing there, Cursor has), one past it.
func TestEnd(t *testing.T) {
	for _, p := range pairs(true) {
		end := windowsOf(rowsOf(p.a, p.b))
		spans(t, p, end-1, capacity(p.b)-capacity(p.b)/end, capacity(p.b))
		spans(t, p, end, 0, 0)
		stands(t, p, end, capacity(p.a))
		spans(t, p, end+1, 0, 0)
		stands(t, p, end+1, 0)
	}
}

// P18.1, R6, R8: windows that there are not, below 0 and past the end, up to the ends of the whole numbers: nothing.
func TestNoSuchWindow(t *testing.T) {
	for _, p := range pairs(true) {
		for k := windowsOf(rowsOf(p.a, p.b)) + 1; k < 40; k++ {
			spans(t, p, k, 0, 0)
			stands(t, p, k, 0)
		}
		for _, l := range [][]int{past, below} {
			for _, k := range l {
				spans(t, p, k, 0, 0)
				stands(t, p, k, 0)
			}
		}
	}
}
