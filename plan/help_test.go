package plan_test

import (
	"math"
	"testing"

	"wattle/api"
	"wattle/plan"
)

func at(level, disks, chunk int) api.Geom {
	return api.Geom{Level: level, Disks: disks, Chunk: chunk}
}

// width is how many sectors of a row are data: level 5 has one disk of parity, level 6 two.
func width(g api.Geom) int { return g.Disks - (g.Level - 4) }

func capacity(g api.Geom) int { return width(g) * api.Rows }

// good is each geometry that may be.
func good() []api.Geom {
	var l []api.Geom
	for _, level := range []int{5, 6} {
		for disks := level - 2; disks <= api.MaxDisks; disks++ {
			for _, chunk := range []int{1, 2, 4} {
				l = append(l, at(level, disks, chunk))
			}
		}
	}
	return l
}

// bad is geometries that may not be: right ones, wrong in one number, and some wrong in more.
func bad() []api.Geom {
	l := []api.Geom{{}, at(0, 5, 1), at(5, 0, 1), at(5, 5, 0), at(6, 3, 1), at(6, 3, 2), at(6, 3, 4), at(-5, -3, -1),
		at(math.MaxInt, math.MaxInt, math.MaxInt), at(math.MinInt, math.MinInt, math.MinInt)}
	for _, n := range []int{-5, -1, 0, 1, 4, 7, 1<<8 + 5, 1<<32 + 6, math.MaxInt, math.MinInt + 5} {
		l = append(l, at(n, 3, 1), at(n, 4, 2), at(n, 8, 4))
	}
	for _, n := range []int{-4, -1, 0, 1, 2, 9, 10, 16, 1<<8 + 4, 1<<32 + 4, math.MaxInt, math.MinInt + 4} {
		l = append(l, at(5, n, 1), at(5, n, 4), at(6, n, 2), at(6, n, 4))
	}
	for _, n := range []int{-4, -1, 0, 3, 5, 6, 8, 12, 16, 1<<8 + 1, 1<<32 + 4, math.MaxInt, math.MinInt + 1} {
		l = append(l, at(5, 3, n), at(5, 8, n), at(6, 4, n), at(6, 8, n))
	}
	return l
}

// can tells by the words of chapter 7 whether one of two geometries that may be may become the other.
func can(a, b api.Geom) bool {
	return a != b && b.Disks >= a.Disks && b.Level >= a.Level && width(b) >= width(a)
}

// pair is a geometry and what it becomes.
type pair struct{ a, b api.Geom }

// pairs is each pair of geometries that may be, that can, or that can't.
func pairs(may bool) []pair {
	var l []pair
	for _, a := range good() {
		for _, b := range good() {
			if can(a, b) == may {
				l = append(l, pair{a, b})
			}
		}
	}
	return l
}

// rowsOf is how many rows a window has, by hand: of chunks a and b.
func rowsOf(a, b api.Geom) int {
	switch [2]int{a.Chunk, b.Chunk} {
	case [2]int{1, 1}:
		return 1
	case [2]int{1, 2}, [2]int{2, 1}, [2]int{2, 2}:
		return 2
	case [2]int{1, 4}, [2]int{4, 1}, [2]int{2, 4}, [2]int{4, 2}, [2]int{4, 4}:
		return 4
	}
	panic("no such chunks")
}

// windowsOf is how many windows there are, by hand: of so many rows each.
func windowsOf(rows int) int {
	switch rows {
	case 1:
		return 16
	case 2:
		return 8
	case 4:
		return 4
	}
	panic("no such rows")
}

// sizes fails the test unless a window has so many rows, and there are so many windows.
func sizes(t *testing.T, p pair, rows, windows int) {
	t.Helper()
	a, b := p.a, p.b
	if got := plan.Rows(a, b); got != rows {
		t.Errorf("Rows(%v, %v): %d, not %d", a, b, got, rows)
	}
	if got := plan.Windows(a, b); got != windows {
		t.Errorf("Windows(%v, %v): %d, not %d", a, b, got, windows)
	}
	same(t, p, pair{a, b})
}

// spans fails the test unless window k moves the sectors from from on, below to.
func spans(t *testing.T, p pair, k, from, to int) {
	t.Helper()
	a, b := p.a, p.b
	if f, e := plan.Span(a, b, k); f != from || e != to {
		t.Errorf("Span(%v, %v, %d): %d, %d, not %d, %d", a, b, k, f, e, from, to)
	}
	same(t, p, pair{a, b})
}

// stands fails the test unless the sectors below n are in b, when k windows are moved.
func stands(t *testing.T, p pair, k, n int) {
	t.Helper()
	a, b := p.a, p.b
	if got := plan.Cursor(a, b, k); got != n {
		t.Errorf("Cursor(%v, %v, %d): %d, not %d", a, b, k, got, n)
	}
	same(t, p, pair{a, b})
}

// same fails the test unless what was handed in is as it was.
func same(t *testing.T, was, is pair) {
	t.Helper()
	if was != is {
		t.Errorf("handed in %v, then it is %v", was, is)
	}
}
