package place_test

import (
	"fmt"
	"math"
	"slices"
	"strconv"
	"strings"
	"testing"

	"wattle/api"
	"wattle/place"
)

// spot is a place: a disk, a row.
type spot struct{ disk, row int }

// chart is what stands at each place of a geometry: by rows, by disks, a sector's number, or parity.
type chart [][]int

const (
	onP = -1
	onQ = -2
)

func at(level, disks, chunk int) api.Geom {
	return api.Geom{Level: level, Disks: disks, Chunk: chunk}
}

// budget is how many disks hold parity in a row.
func budget(g api.Geom) int {
	return g.Level - 4
}

// good is each geometry that may be.
func good() []api.Geom {
	var l []api.Geom
	for _, level := range []int{5, 6} {
		for disks := level - 2; disks <= api.MaxDisks; disks++ {
			for _, chunk := range []int{1, 2, 4} {
				l = append(l, at(level, disks, chunk))
			}
		}
	}
	return l
}

// bad is geometries that may not be: right ones, wrong in one number, and some wrong in more.
func bad() []api.Geom {
	l := []api.Geom{{}, at(0, 5, 1), at(5, 0, 1), at(5, 5, 0), at(math.MaxInt, math.MaxInt, math.MaxInt), at(math.MinInt, math.MinInt, math.MinInt), at(-5, -3, -1)}
	for _, n := range []int{-1, -5, -6, 0, 1, 4, 7, 8, 56, 1<<8 + 5, 1<<32 + 5, 1<<32 + 6, math.MaxInt, math.MinInt, math.MinInt + 5} {
		l = append(l, at(n, 3, 1), at(n, 4, 2), at(n, 8, 4))
	}
	for _, n := range []int{-8, -4, -3, -1, 0, 1, 2, 9, 16, 1<<8 + 3, 1<<32 + 4, math.MaxInt, math.MinInt, math.MinInt + 4} {
		l = append(l, at(5, n, 1), at(5, n, 4), at(6, n, 2), at(6, n, 4))
	}
	l = append(l, at(6, 3, 1), at(6, 3, 2), at(6, 3, 4))
	for _, n := range []int{-4, -2, -1, 0, 3, 5, 6, 7, 8, 16, 1<<8 + 1, 1<<32 + 2, 1<<32 + 4, math.MaxInt, math.MinInt, math.MinInt + 1} {
		l = append(l, at(5, 3, n), at(5, 8, n), at(6, 4, n), at(6, 8, n))
	}
	return l
}

// none is what is below 0, and very great: a row, a data chunk, a sector, a disk of no geometry.
var none = []int{
	-1, -2, -3, -4, -8, -16, -32, math.MinInt32, -1 << 32, math.MinInt, math.MinInt + 1, math.MinInt + 4, math.MinInt + 16,
	112, 113, 1 << 8, 1<<8 + 1, 1 << 16, math.MaxInt32, 1 << 32, 1<<32 + 1, math.MaxInt - 1, math.MaxInt,
}

// read makes a chart of its lines.
func read(t *testing.T, lines string) chart {
	t.Helper()
	var c chart
	for line := range strings.SplitSeq(strings.TrimSpace(lines), "\n") {
		var row []int
		for _, word := range strings.Fields(line) {
			switch word {
			case "P":
				row = append(row, onP)
			case "Q":
				row = append(row, onQ)
			default:
				n, err := strconv.Atoi(word)
				if err != nil {
					t.Fatal(err)
				}
				row = append(row, n)
			}
		}
		c = append(c, row)
	}
	if len(c) != api.Rows {
		t.Fatalf("%d rows", len(c))
	}
	return c
}

// deal makes a chart by dealing the sectors out, stripe by stripe, chunk by chunk, as from a pile: no number is parted.
func deal(g api.Geom) chart {
	c := make(chart, api.Rows)
	for row := range c {
		c[row] = make([]int, g.Disks)
	}
	n, p := 0, g.Disks-1
	for row := 0; row < api.Rows; row += g.Chunk {
		disk := p
		for part := range g.Disks {
			for i := range g.Chunk {
				switch {
				case part == 0:
					c[row+i][disk] = onP
				case part < budget(g):
					c[row+i][disk] = onQ
				default:
					c[row+i][disk] = n
					n++
				}
			}
			if disk++; disk == g.Disks {
				disk = 0
			}
		}
		if p--; p < 0 {
			p = g.Disks - 1
		}
	}
	return c
}

// data is the places of a row's data in the chart, by their numbers, the least first.
func (c chart) data(row int) []spot {
	var l []spot
	for disk, x := range c[row] {
		if x >= 0 {
			l = append(l, spot{disk, row})
		}
	}
	slices.SortFunc(l, func(a, b spot) int { return c[row][a.disk] - c[row][b.disk] })
	return l
}

// hold holds all calls of a geometry against its chart.
func hold(t *testing.T, g api.Geom, c chart) {
	t.Helper()
	for row := range c {
		if p, q := place.Parity(g, row); p != slices.Index(c[row], onP) || q != slices.Index(c[row], onQ) {
			t.Errorf("Parity(%v, %d): %d, %d", g, row, p, q)
		}
		data := c.data(row)
		var numbers []int
		for k, s := range data {
			if got := place.Disk(g, row, k); got != s.disk {
				t.Errorf("Disk(%v, %d, %d): %d, not %d", g, row, k, got, s.disk)
			}
			n := c[row][s.disk]
			numbers = append(numbers, n)
			if disk, r, ok := place.Of(g, n); !ok || disk != s.disk || r != row {
				t.Errorf("Of(%v, %d): %d, %d, %v, not %v", g, n, disk, r, ok, s)
			}
		}
		if got := place.Numbers(g, row); !slices.Equal(got, numbers) {
			t.Errorf("Numbers(%v, %d): %v, not %v", g, row, got, numbers)
		}
		for disk, x := range c[row] {
			want := fmt.Sprint(api.Plain, x, true)
			switch x {
			case onP:
				want = fmt.Sprint(api.P, 0, true)
			case onQ:
				want = fmt.Sprint(api.Q, 0, true)
			}
			kind, n, ok := place.Back(g, disk, row)
			if got := fmt.Sprint(kind, n, ok); got != want {
				t.Errorf("Back(%v, %d, %d): %s, not %s", g, disk, row, got, want)
			}
		}
	}
}

// noRow fails the test unless the geometry has no such row, for whatever is asked of it.
func noRow(t *testing.T, g api.Geom, row int) {
	t.Helper()
	if p, q := place.Parity(g, row); p != -1 || q != -1 {
		t.Errorf("Parity(%v, %d): %d, %d", g, row, p, q)
	}
	if l := place.Numbers(g, row); len(l) != 0 {
		t.Errorf("Numbers(%v, %d): %v", g, row, l)
	}
	for k := -1; k <= api.MaxDisks; k++ {
		noDisk(t, g, row, k)
		noPlace(t, g, k, row)
	}
	for _, k := range none {
		noDisk(t, g, row, k)
		noPlace(t, g, k, row)
	}
}

func noDisk(t *testing.T, g api.Geom, row, k int) {
	t.Helper()
	if got := place.Disk(g, row, k); got != -1 {
		t.Errorf("Disk(%v, %d, %d): %d", g, row, k, got)
	}
}

func noPlace(t *testing.T, g api.Geom, disk, row int) {
	t.Helper()
	if kind, n, ok := place.Back(g, disk, row); kind != 0 || n != 0 || ok {
		t.Errorf("Back(%v, %d, %d): %d, %d, %v", g, disk, row, kind, n, ok)
	}
}

func noSector(t *testing.T, g api.Geom, n int) {
	t.Helper()
	if disk, row, ok := place.Of(g, n); disk != 0 || row != 0 || ok {
		t.Errorf("Of(%v, %d): %d, %d, %v", g, n, disk, row, ok)
	}
}

// P8.2: the chapter's example.
func TestExample(t *testing.T) {
	disk, row, ok := place.Of(at(5, 3, 1), 0)
	if disk != 0 || row != 0 || !ok {
		t.Errorf("%d, %d, %v", disk, row, ok)
	}
}

// P8.1, P8.2: each row of geometries of either level and of each chunk, by charts made by hand.
func TestByHand(t *testing.T) {
	for _, r := range []struct {
		g     api.Geom
		lines string
	}{
		{at(5, 3, 1), fiveOf3By1}, {at(5, 3, 2), fiveOf3By2}, {at(5, 4, 4), fiveOf4By4}, {at(5, 8, 1), fiveOf8By1},
		{at(6, 4, 1), sixOf4By1}, {at(6, 5, 2), sixOf5By2}, {at(6, 6, 4), sixOf6By4}, {at(6, 8, 4), sixOf8By4},
	} {
		hold(t, r.g, read(t, r.lines))
	}
}

// P8.1, P8.2: each place of each geometry, by dealing its sectors out.
func TestEach(t *testing.T) {
	if n := len(good()); n != 33 {
		t.Fatalf("%d geometries", n)
	}
	for _, g := range good() {
		hold(t, g, deal(g))
	}
}

// P8.1, by the chapter's words, read as they stand.
func TestByWords(t *testing.T) {
	for _, g := range good() {
		for row := range api.Rows {
			s := row / g.Chunk
			p, last, q := g.Disks-1-s%g.Disks, g.Disks-1-s%g.Disks, -1
			if g.Level == 6 {
				q = (p + 1) % g.Disks
				last = q
			}
			if gp, gq := place.Parity(g, row); gp != p || gq != q {
				t.Errorf("Parity(%v, %d): %d, %d, not %d, %d", g, row, gp, gq, p, q)
			}
			for k := range g.Disks - budget(g) {
				if got := place.Disk(g, row, k); got != (last+1+k)%g.Disks {
					t.Errorf("Disk(%v, %d, %d): %d, behind %d", g, row, k, got, last)
				}
			}
		}
	}
}

// P8.1: a row's parity and its data chunks stand on disks of their own, and all disks have one of them.
func TestOwnDisks(t *testing.T) {
	for _, g := range good() {
		for row := range api.Rows {
			p, q := place.Parity(g, row)
			l := []int{p}
			if g.Level == 6 {
				l = append(l, q)
			} else if q != -1 {
				t.Errorf("%v, row %d: Q on %d", g, row, q)
			}
			for k := 0; place.Disk(g, row, k) != -1; k++ {
				l = append(l, place.Disk(g, row, k))
			}
			slices.Sort(l)
			for i, disk := range l {
				if len(l) != g.Disks || disk != i {
					t.Fatalf("%v, row %d: disks %v", g, row, l)
				}
			}
		}
	}
}

// P8.2: each sector has one place, which is no other's, and each place of a data chunk one sector, which Back tells.
func TestThereAndBack(t *testing.T) {
	for _, g := range good() {
		seen := map[spot]int{}
		capacity := (g.Disks - budget(g)) * api.Rows
		for n := range capacity {
			disk, row, ok := place.Of(g, n)
			if other, twice := seen[spot{disk, row}]; !ok || twice {
				t.Fatalf("%v: %d at %d, %d, %v, as is %d", g, n, disk, row, ok, other)
			}
			seen[spot{disk, row}] = n
			if kind, back, ok := place.Back(g, disk, row); kind != api.Plain || back != n || !ok {
				t.Errorf("%v: %d, and back %d, %d, %v", g, n, kind, back, ok)
			}
		}
		count := map[int]int{}
		for row := range api.Rows {
			p, q := place.Parity(g, row)
			for disk := range g.Disks {
				kind, n, ok := place.Back(g, disk, row)
				if sector, plain := seen[spot{disk, row}]; !ok || plain != (kind == api.Plain) || n != sector {
					t.Errorf("%v, disk %d, row %d: %d, %d, %v", g, disk, row, kind, n, ok)
				}
				if (kind == api.P) != (disk == p) || (kind == api.Q) != (disk == q) {
					t.Errorf("%v, disk %d, row %d: %d, parity on %d, %d", g, disk, row, kind, p, q)
				}
				count[kind]++
			}
		}
		if len(seen) != capacity || count[api.Plain] != capacity || count[api.P] != api.Rows || count[api.Q] != api.Rows*(g.Level-5) {
			t.Errorf("%v: %d sectors, %v", g, len(seen), count)
		}
	}
}

// P8.2: the sectors of a row are those that Of puts in it, each on its data chunk's disk.
func TestNumbers(t *testing.T) {
	for _, g := range good() {
		for row := range api.Rows {
			l := place.Numbers(g, row)
			if len(l) != g.Disks-budget(g) {
				t.Errorf("%v, row %d: %v", g, row, l)
			}
			for k, n := range l {
				if disk, r, ok := place.Of(g, n); !ok || r != row || disk != place.Disk(g, row, k) {
					t.Errorf("%v, row %d, data chunk %d: %d, which is at %d, %d, %v", g, row, k, n, disk, r, ok)
				}
				if k > 0 && n != l[k-1]+g.Chunk {
					t.Errorf("%v, row %d: %v", g, row, l)
				}
			}
		}
	}
}

// P8.1, the edges: the rows of one stripe have their parity and their data on the same disks; at the next stripe all of it stands one disk ahead (round).
func TestStripes(t *testing.T) {
	for _, g := range good() {
		for row := 1; row < api.Rows; row++ {
			ahead := 0
			if row%g.Chunk == 0 {
				ahead = g.Disks - 1
			}
			p, q := place.Parity(g, row-1)
			p = (p + ahead) % g.Disks
			if q != -1 {
				q = (q + ahead) % g.Disks
			}
			if gp, gq := place.Parity(g, row); gp != p || gq != q {
				t.Errorf("Parity(%v, %d): %d, %d, not %d, %d", g, row, gp, gq, p, q)
			}
			for k := range g.Disks - budget(g) {
				want := (place.Disk(g, row-1, k) + ahead) % g.Disks
				if got := place.Disk(g, row, k); got != want {
					t.Errorf("Disk(%v, %d, %d): %d, not %d", g, row, k, got, want)
				}
			}
		}
	}
}

// P8.1, the edges, by hand: the first row, the last, the places at which the disks go round, Q on disk 0 and on the last.
func TestParityEdges(t *testing.T) {
	for _, r := range []struct {
		name      string
		g         api.Geom
		row, p, q int
	}{
		{"the first row", at(5, 3, 1), 0, 2, -1},
		{"the first row: Q on disk 0", at(6, 4, 1), 0, 3, 0},
		{"the first row of most disks", at(5, 8, 4), 0, 7, -1},
		{"the first row of most disks: Q on disk 0", at(6, 8, 2), 0, 7, 0},
		{"the second stripe: Q on the last disk", at(6, 8, 2), 2, 6, 7},
		{"a stripe's last row", at(5, 5, 4), 3, 4, -1},
		{"the next stripe's first row", at(5, 5, 4), 4, 3, -1},
		{"P on disk 0", at(5, 3, 2), 5, 0, -1},
		{"P goes round", at(5, 3, 2), 6, 2, -1},
		{"P on disk 0, Q on disk 1", at(6, 5, 1), 4, 0, 1},
		{"P goes round: Q on disk 0 again", at(6, 5, 1), 5, 4, 0},
		{"P goes round twice", at(5, 7, 1), 14, 6, -1},
		{"the last row", at(5, 3, 1), 15, 2, -1},
		{"the last row, two a chunk", at(5, 3, 2), 15, 1, -1},
		{"the last row, four a chunk", at(5, 3, 4), 15, 2, -1},
		{"the last row, level 6", at(6, 4, 1), 15, 0, 1},
		{"the last row, two a chunk, level 6", at(6, 7, 2), 15, 6, 0},
		{"the last row of most disks", at(6, 8, 1), 15, 0, 1},
		{"the last row of most disks, four a chunk", at(6, 8, 4), 15, 4, 5},
	} {
		if p, q := place.Parity(r.g, r.row); p != r.p || q != r.q {
			t.Errorf("%s: %d, %d", r.name, p, q)
		}
	}
}

// P8.1, R8, the edges: data chunk 0 and Width - 1, by hand; no data chunk -1, none from Width on, in each row.
func TestDiskEdges(t *testing.T) {
	for _, r := range []struct {
		g                 api.Geom
		row, k, disk, end int
	}{
		{at(5, 3, 1), 0, 0, 0, 2}, {at(5, 3, 1), 0, 1, 1, 2}, {at(5, 3, 1), 1, 0, 2, 2}, {at(5, 3, 1), 1, 1, 0, 2},
		{at(5, 8, 4), 0, 6, 6, 7}, {at(5, 8, 4), 15, 0, 5, 7}, {at(5, 8, 4), 15, 6, 3, 7},
		{at(6, 4, 2), 0, 0, 1, 2}, {at(6, 4, 2), 0, 1, 2, 2}, {at(6, 4, 2), 2, 0, 0, 2}, {at(6, 4, 2), 4, 0, 3, 2}, {at(6, 4, 2), 4, 1, 0, 2},
		{at(6, 8, 1), 0, 5, 6, 6}, {at(6, 8, 1), 15, 0, 2, 6}, {at(6, 8, 1), 15, 5, 7, 6},
	} {
		if got := place.Disk(r.g, r.row, r.k); got != r.disk {
			t.Errorf("Disk(%v, %d, %d): %d, not %d", r.g, r.row, r.k, got, r.disk)
		}
		noDisk(t, r.g, r.row, r.end)
	}
	for _, g := range good() {
		for row := range api.Rows {
			for k := g.Disks - budget(g); k <= 2*api.MaxDisks; k++ {
				noDisk(t, g, row, k)
			}
			for _, k := range none {
				noDisk(t, g, row, k)
			}
		}
	}
}

// P8.2, R8, the edges, by hand: sector 0, the last of a chunk, the first of the next chunk and of the next stripe, Capacity - 1; no sector -1, none from Capacity on.
func TestOfEdges(t *testing.T) {
	for _, r := range []struct {
		g            api.Geom
		n, disk, row int
	}{
		{at(5, 3, 4), 0, 0, 0}, {at(5, 3, 4), 3, 0, 3}, {at(5, 3, 4), 4, 1, 0}, {at(5, 3, 4), 7, 1, 3}, {at(5, 3, 4), 8, 2, 4}, {at(5, 3, 4), 31, 1, 15},
		{at(5, 8, 2), 0, 0, 0}, {at(5, 8, 2), 13, 6, 1}, {at(5, 8, 2), 14, 7, 2}, {at(5, 8, 2), 16, 0, 2}, {at(5, 8, 2), 111, 7, 15},
		{at(6, 4, 1), 0, 1, 0}, {at(6, 4, 1), 1, 2, 0}, {at(6, 4, 1), 2, 0, 1}, {at(6, 4, 1), 31, 3, 15},
		{at(6, 8, 4), 0, 1, 0}, {at(6, 8, 4), 23, 6, 3}, {at(6, 8, 4), 24, 0, 4}, {at(6, 8, 4), 95, 3, 15},
	} {
		if disk, row, ok := place.Of(r.g, r.n); disk != r.disk || row != r.row || !ok {
			t.Errorf("Of(%v, %d): %d, %d, %v", r.g, r.n, disk, row, ok)
		}
	}
	for _, g := range good() {
		capacity := (g.Disks - budget(g)) * api.Rows
		if _, row, ok := place.Of(g, capacity-1); row != api.Rows-1 || !ok {
			t.Errorf("Of(%v, %d): row %d, %v", g, capacity-1, row, ok)
		}
		for n := capacity; n < 3*capacity; n++ {
			noSector(t, g, n)
		}
		for _, n := range none {
			noSector(t, g, n)
		}
	}
}

// P8.2, R8, wrong inputs: disks that the geometry has not, in each row that it has; on level 5 disk -1 holds no Q.
func TestNoDisk(t *testing.T) {
	for _, g := range good() {
		for row := range api.Rows {
			for disk := g.Disks; disk <= 2*api.MaxDisks; disk++ {
				noPlace(t, g, disk, row)
			}
			for _, disk := range none {
				noPlace(t, g, disk, row)
			}
		}
	}
}

// P8.1, P8.2, R8, wrong inputs: rows ahead of the first and past the last, of all geometries that may be.
func TestNoRow(t *testing.T) {
	for _, g := range good() {
		for row := api.Rows; row <= 2*api.Rows; row++ {
			noRow(t, g, row)
		}
		for _, row := range none {
			noRow(t, g, row)
		}
	}
}

// P8.1, P8.2, R1, wrong inputs: nothing stands anywhere in a geometry that may not be.
func TestNoGeometry(t *testing.T) {
	for _, g := range bad() {
		for row := range api.Rows + 1 {
			noRow(t, g, row)
		}
		for n := range 2 * api.MaxDisks * api.Rows {
			noSector(t, g, n)
		}
		for _, n := range none {
			noRow(t, g, n)
			noSector(t, g, n)
		}
	}
}

// R4: the list of Numbers is new memory each time, all of it.
func TestNumbersNew(t *testing.T) {
	for _, g := range good() {
		a, b := place.Numbers(g, 5), place.Numbers(g, 5)
		want := slices.Clone(a)
		b = b[:cap(b)]
		for i := range b {
			b[i] = -7
		}
		if !slices.Equal(a, want) || !slices.Equal(place.Numbers(g, 5), want) {
			t.Errorf("%v: %v, not %v", g, a, want)
		}
	}
}

// R5: the same arguments have the same answers, whatever was asked between.
func TestAgain(t *testing.T) {
	ask := func(g api.Geom, x, y int) string {
		p, q := place.Parity(g, x)
		disk, row, found := place.Of(g, x*api.MaxDisks+y)
		kind, n, ok := place.Back(g, y, x)
		return fmt.Sprint(p, q, place.Disk(g, x, y), disk, row, found, kind, n, ok, place.Numbers(g, x))
	}
	type call struct {
		g    api.Geom
		x, y int
	}
	var calls []call
	for _, g := range append(good(), bad()...) {
		for x := -1; x <= api.Rows; x++ {
			for y := -1; y <= api.MaxDisks; y++ {
				calls = append(calls, call{g, x, y})
			}
		}
	}
	first := make([]string, len(calls))
	for i, c := range calls {
		first[i] = ask(c.g, c.x, c.y)
	}
	for i, c := range slices.Backward(calls) {
		if got := ask(c.g, c.x, c.y); got != first[i] {
			t.Errorf("%v: %s, then %s", c, first[i], got)
		}
	}
}
