package plan_test

import (
	"slices"
	"testing"

	"wattle/api"
	"wattle/place"
	"wattle/plan"
)

// numbers is the sectors that stand in a row, data chunk by data chunk, reckoned by the words of chapter 8.
func numbers(g api.Geom, row int) []int {
	l := make([]int, width(g))
	for i := range l {
		l[i] = (row/g.Chunk*width(g)+i)*g.Chunk + row%g.Chunk
	}
	return l
}

// spot is the row and the data chunk of sector n.
func spot(g api.Geom, n int) (row, chunk int) {
	c := n / g.Chunk
	return c/width(g)*g.Chunk + n%g.Chunk, c % width(g)
}

// What these tests take of where sectors stand is what package place tells.
func TestNumbers(t *testing.T) {
	for _, g := range good() {
		for row := range api.Rows {
			l := numbers(g, row)
			if got := place.Numbers(g, row); !slices.Equal(got, l) {
				t.Errorf("%v, row %d: %v, not %v", g, row, l, got)
			}
			for i, n := range l {
				if r, c := spot(g, n); r != row || c != i {
					t.Errorf("%v, sector %d: row %d, chunk %d", g, n, r, c)
				}
			}
		}
	}
}

// rowsIn is the rows of window k.
func rowsIn(p pair, k int) []int {
	var l []int
	size := plan.Rows(p.a, p.b)
	for row := k * size; row < (k+1)*size; row++ {
		l = append(l, row)
	}
	return l
}

// P18.2: the sectors that stand in the rows of a window in a, and that are not moved yet, are of its span alone: those not
// below the span's beginning are below its end, and so are those not below the cursor.
func TestHeldInA(t *testing.T) {
	for _, p := range pairs(true) {
		held := map[int]int{}
		for k := range plan.Windows(p.a, p.b) {
			from, to := plan.Span(p.a, p.b, k)
			moved := plan.Cursor(p.a, p.b, k)
			for _, row := range rowsIn(p, k) {
				for _, n := range numbers(p.a, row) {
					held[n]++
					if n >= from && n >= to {
						t.Errorf("%v, window %d (%d to %d), row %d: %d", p, k, from, to, row, n)
					}
					if (n >= moved) != (n >= from) {
						t.Errorf("%v, window %d (%d to %d), row %d: %d, and the cursor %d", p, k, from, to, row, n, moved)
					}
				}
			}
		}
		once(t, p, held, 0, capacity(p.a))
	}
}

// P18.2: the sectors that stand in the rows of a window in b are those of its span, each once.
func TestHeldInB(t *testing.T) {
	for _, p := range pairs(true) {
		for k := range plan.Windows(p.a, p.b) {
			held := map[int]int{}
			for _, row := range rowsIn(p, k) {
				for _, n := range numbers(p.b, row) {
					held[n]++
				}
			}
			from, to := plan.Span(p.a, p.b, k)
			once(t, p, held, from, to)
		}
	}
}

// once fails the test unless what is held is the sectors from from on, below to, each once.
func once(t *testing.T, p pair, held map[int]int, from, to int) {
	t.Helper()
	if len(held) != to-from {
		t.Errorf("%v: %d sectors, not %d to %d", p, len(held), from, to)
	}
	for n, times := range held {
		if n < from || n >= to || times != 1 {
			t.Errorf("%v: sector %d %d times, of %d to %d", p, n, times, from, to)
		}
	}
}

// P18.2: what follows for the moving: no sector of a window's span stands, in a, in a row of a window ahead of it, which is
// in b by then.
func TestNotOverwritten(t *testing.T) {
	for _, p := range pairs(true) {
		for k := range plan.Windows(p.a, p.b) {
			from, to := plan.Span(p.a, p.b, k)
			for n := from; n < to && n < capacity(p.a); n++ {
				if row, _ := spot(p.a, n); row < rowsIn(p, k)[0] {
					t.Errorf("%v, window %d: sector %d stands in row %d", p, k, n, row)
				}
			}
		}
	}
}

const none = -1 // a sector that a does not hold

// laid is each row of a, by data chunks, with the numbers of its sectors in it.
func laid(g api.Geom) [][]int {
	var l [][]int
	for row := range api.Rows {
		l = append(l, numbers(g, row))
	}
	return l
}

// move takes the sectors of window k from where they stand in a, and then lays its rows in b with them.
func move(p pair, rows [][]int, k int) {
	from, to := plan.Span(p.a, p.b, k)
	taken := map[int]int{}
	for n := from; n < to; n++ {
		taken[n] = none
		if n < capacity(p.a) {
			row, chunk := spot(p.a, n)
			taken[n] = rows[row][chunk]
		}
	}
	for _, row := range rowsIn(p, k) {
		rows[row] = nil
		for _, n := range numbers(p.b, row) {
			rows[row] = append(rows[row], taken[n])
		}
	}
}

// P18.1, P18.2: rows that are moved window by window, in place: behind each, a sector below the cursor is found in b, any
// other in a, and behind the last one the rows are all in b, with nothing where a held nothing.
func TestMoved(t *testing.T) {
	for _, p := range pairs(true) {
		rows := laid(p.a)
		found(t, p, rows, 0)
		for k := range plan.Windows(p.a, p.b) {
			move(p, rows, k)
			found(t, p, rows, k+1)
		}
		for row, l := range rows {
			for i, n := range numbers(p.b, row) {
				if n >= capacity(p.a) {
					n = none
				}
				if len(l) != width(p.b) || l[i] != n {
					t.Fatalf("%v, row %d: %v", p, row, l)
				}
			}
		}
	}
}

// found fails the test unless each sector of a is where the cursor says, when k windows are moved.
func found(t *testing.T, p pair, rows [][]int, k int) {
	t.Helper()
	cursor := plan.Cursor(p.a, p.b, k)
	for n := range capacity(p.a) {
		g := p.a
		if n < cursor {
			g = p.b
		}
		row, chunk := spot(g, n)
		if (row < k*plan.Rows(p.a, p.b)) != (n < cursor) {
			t.Fatalf("%v, %d windows moved, sector %d: in row %d", p, k, n, row)
		}
		if len(rows[row]) != width(g) || rows[row][chunk] != n {
			t.Fatalf("%v, %d windows moved, sector %d: row %d is %v", p, k, n, row, rows[row])
		}
	}
}
