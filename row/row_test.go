package row_test

import (
	"slices"
	"strings"
	"testing"

	"wattle/api"
	"wattle/place"
	"wattle/row"
)

// P13.1: the chapter's example.
func TestExample(t *testing.T) {
	a, b, sum := mixed(1, 32), mixed(2, 32), full(0)
	for i := range sum {
		sum[i] = a[i] ^ b[i]
	}
	for _, chunk := range []int{1, 2, 4} {
		stands(t, at(5, 3, chunk), 0, [][]byte{a, b}, [][]byte{a, b, sum})
	}
}

// P13.1: rows by hand, each sector of one byte; Q reckoned by hand.
func TestByHand(t *testing.T) {
	for _, r := range []struct {
		g             api.Geom
		row           int
		data, sectors string
	}{
		{at(5, 3, 1), 0, "\x01\x02", "\x01\x02\x03"},
		{at(5, 3, 1), 1, "\x01\x02", "\x02\x03\x01"},
		{at(5, 3, 1), 2, "\x01\x02", "\x03\x01\x02"},
		{at(5, 3, 1), 3, "\x01\x02", "\x01\x02\x03"},
		{at(5, 3, 2), 1, "\x01\x02", "\x01\x02\x03"},
		{at(5, 3, 2), 2, "\x01\x02", "\x02\x03\x01"},
		{at(5, 3, 4), 15, "\xF0\x3C", "\xF0\x3C\xCC"},
		{at(5, 8, 1), 0, "\x01\x02\x04\x08\x10\x20\x40", "\x01\x02\x04\x08\x10\x20\x40\x7F"},
		{at(5, 8, 1), 15, "\x01\x02\x04\x08\x10\x20\x40", "\x7F\x01\x02\x04\x08\x10\x20\x40"},
		// Of two: Q is the first + the second times 2; 80 times 2 is 1D.
		{at(6, 4, 1), 0, "\x01\x02", "\x05\x01\x02\x03"},
		{at(6, 4, 1), 1, "\x01\x02", "\x01\x02\x03\x05"},
		{at(6, 4, 1), 2, "\x01\x02", "\x02\x03\x05\x01"},
		{at(6, 4, 1), 3, "\x01\x02", "\x03\x05\x01\x02"},
		{at(6, 4, 1), 4, "\x01\x80", "\x1C\x01\x80\x81"},
		{at(6, 4, 4), 3, "\x80\x01", "\x82\x80\x01\x81"},
		{at(6, 5, 2), 9, "\x01\x02\x04", "\x07\x15\x01\x02\x04"},
		// Of six ones: 1 + 2 + 4 + 8 + 10 + 20 is 3F.
		{at(6, 8, 1), 0, "\x01\x01\x01\x01\x01\x01", "\x3F\x01\x01\x01\x01\x01\x01\x00"},
		// Of 80: 80 + 1D + 3A + 74 + E8 + CD is F6.
		{at(6, 8, 2), 15, "\x80\x80\x80\x80\x80\x80", "\x00\xF6\x80\x80\x80\x80\x80\x80"},
	} {
		data, sectors := [][]byte{}, [][]byte{}
		for _, c := range []byte(r.data) {
			data = append(data, full(c))
		}
		for _, c := range []byte(r.sectors) {
			sectors = append(sectors, full(c))
		}
		stands(t, r.g, r.row, data, sectors)
	}
}

// P13.1: each turn of parity, by charts made by hand: a line is a stripe, a word in it what stands on a disk.
func TestCharts(t *testing.T) {
	for _, r := range []struct {
		level  int
		stripe []string
	}{
		{5, []string{"0 1 P", "1 P 0", "P 0 1", "0 1 P"}},
		{5, []string{"0 1 2 P", "1 2 P 0", "2 P 0 1", "P 0 1 2", "0 1 2 P"}},
		{5, []string{"0 1 2 3 4 P", "1 2 3 4 P 0", "2 3 4 P 0 1", "3 4 P 0 1 2", "4 P 0 1 2 3", "P 0 1 2 3 4", "0 1 2 3 4 P"}},
		{5, []string{
			"0 1 2 3 4 5 6 P", "1 2 3 4 5 6 P 0", "2 3 4 5 6 P 0 1", "3 4 5 6 P 0 1 2", "4 5 6 P 0 1 2 3",
			"5 6 P 0 1 2 3 4", "6 P 0 1 2 3 4 5", "P 0 1 2 3 4 5 6", "0 1 2 3 4 5 6 P",
		}},
		{6, []string{"Q 0 1 P", "0 1 P Q", "1 P Q 0", "P Q 0 1", "Q 0 1 P"}},
		{6, []string{"Q 0 1 2 P", "0 1 2 P Q", "1 2 P Q 0", "2 P Q 0 1", "P Q 0 1 2", "Q 0 1 2 P"}},
		{6, []string{
			"Q 0 1 2 3 4 5 P", "0 1 2 3 4 5 P Q", "1 2 3 4 5 P Q 0", "2 3 4 5 P Q 0 1", "3 4 5 P Q 0 1 2",
			"4 5 P Q 0 1 2 3", "5 P Q 0 1 2 3 4", "P Q 0 1 2 3 4 5", "Q 0 1 2 3 4 5 P",
		}},
	} {
		disks := len(strings.Fields(r.stripe[0]))
		for _, chunk := range []int{1, 2, 4} {
			g := at(r.level, disks, chunk)
			for n := range min(api.Rows, len(r.stripe)*chunk) {
				data := several(n, width(g))
				stands(t, g, n, data, laid(read(t, r.stripe[n/chunk]), data))
			}
		}
	}
}

// P13.1: each row of each geometry, from row 0 to the last, byte by byte.
func TestEachRow(t *testing.T) {
	for i, g := range good() {
		for r := range api.Rows {
			for seed := range 4 {
				data := several(i*64+r*4+seed, width(g))
				stands(t, g, r, data, sectorsOf(g, r, data))
			}
		}
	}
}

// P13.1: each data sector is on the disk that place.Disk names, P and Q are where place.Parity has them.
func TestPlaces(t *testing.T) {
	for i, g := range good() {
		for r := range api.Rows {
			data := several(i*16+r, width(g))
			sectors, ok := row.Fill(g, r, data...)
			if !ok || len(sectors) != g.Disks {
				t.Fatal(g, r, sectors, ok)
			}
			wantP, wantQ := sums(data)
			p, q := place.Parity(g, r)
			if !alike(sectors[p:p+1], [][]byte{wantP}) || q >= 0 && !alike(sectors[q:q+1], [][]byte{wantQ}) {
				t.Errorf("%v, %d: parity of %x: %x", g, r, data, sectors)
			}
			for k := range data {
				disk := place.Disk(g, r, k)
				if !alike(sectors[disk:disk+1], data[k:k+1]) {
					t.Errorf("%v, %d, %d: of %x: %x", g, r, k, data, sectors)
				}
			}
		}
	}
}

// P13.1, the edges: rows of zeros, of the greatest bytes, and of the same sector throughout.
func TestAlikeData(t *testing.T) {
	for _, g := range good() {
		for r := range api.Rows {
			for _, x := range [][]byte{full(0), full(1), full(128), full(255), mixed(r, 32)} {
				data := slices.Repeat([][]byte{x}, width(g))
				stands(t, g, r, data, sectorsOf(g, r, data))
			}
			zeros := slices.Repeat([][]byte{full(0)}, g.Disks)
			stands(t, g, r, zeros[:width(g)], zeros)
		}
	}
}

// P13.1: one byte alone that is not 0, of each data sector, at each place, of each number.
func TestOneByte(t *testing.T) {
	for _, g := range []api.Geom{at(5, 3, 1), at(5, 8, 2), at(6, 4, 4), at(6, 8, 1)} {
		for k := range width(g) {
			data := slices.Repeat([][]byte{full(0)}, width(g))
			for c := 1; c < 256; c++ {
				data[k] = full(0)
				data[k][c%32] = byte(c)
				stands(t, g, c%16, data, sectorsOf(g, c%16, data))
			}
			for i := range 32 {
				data[k] = full(0)
				data[k][i] = byte(200 + i)
				stands(t, g, i%16, data, sectorsOf(g, i%16, data))
			}
		}
	}
}

// P13.1, the edges: each choice of disks that are missing, data, P and Q: as many as the level lets be, and the data is
// found; one more and further, and it is not; nor is any but the full row Right.
func TestMissing(t *testing.T) {
	for i, g := range good() {
		for r := range api.Rows {
			data := several(i*16+r, width(g))
			sectors := sectorsOf(g, r, data)
			for gone := range 1 << g.Disks {
				left := without(sectors, gone)
				if digits(gone) <= budget(g) {
					takes(t, g, r, left, data)
				} else {
					untaken(t, g, r, left...)
				}
				if right := row.Right(g, r, left...); right != (gone == 0) {
					t.Errorf("Right(%v, %d, %x): %v", g, r, left, right)
				}
			}
		}
	}
}

// P13.1: rows of zeros, of which some are missing: a sector of zeros is there, and one that is missing is not zeros.
func TestMissingOfZeros(t *testing.T) {
	for _, g := range good() {
		for _, r := range []int{0, 1, 7, 15} {
			zeros := slices.Repeat([][]byte{full(0)}, g.Disks)
			for gone := 1; gone < 1<<g.Disks; gone++ {
				left := without(zeros, gone)
				wrong(t, g, r, left)
				if digits(gone) <= budget(g) {
					takes(t, g, r, left, zeros[:width(g)])
				} else {
					untaken(t, g, r, left...)
				}
			}
		}
	}
}

// P13.1: what is there is taken as it is, whether it agrees or not; one data sector alone that is missing is by P where
// P is there, else by Q.
func TestDisagreeing(t *testing.T) {
	for i, g := range good() {
		for r := range api.Rows {
			data := several(i*16+r, width(g))
			sectors, what := sectorsOf(g, r, data), deal(g, r)
			p, q := slices.Index(what, onP), slices.Index(what, onQ)
			for disk, k := range what {
				other := with(sectors, disk, mixed(disk+7, 32))
				if k < 0 {
					takes(t, g, r, other, data)
				} else {
					takes(t, g, r, other, with(data, k, mixed(disk+7, 32)))
				}
				if k < 0 || q < 0 {
					continue
				}
				takes(t, g, r, with(with(sectors, q, full(9)), disk, nil), data)
				takes(t, g, r, with(with(sectors, p, nil), disk, nil), data)
				left := with(with(sectors, p, full(9)), disk, nil)
				if got, ok := row.Take(g, r, left...); !ok || alike(got, data) {
					t.Errorf("Take(%v, %d, %x): %x, %v", g, r, left, got, ok)
				}
			}
		}
	}
}

// P13.1, the edges: a byte of any one sector turned, whatever it becomes: Right is false.
func TestTurned(t *testing.T) {
	for i, g := range good() {
		for r := range api.Rows {
			sectors := sectorsOf(g, r, several(i*16+r, width(g)))
			for disk := range sectors {
				for n := range api.Sector {
					turned := slices.Clone(sectors[disk])
					turned[n] ^= byte(1 << ((n + r) % 8))
					wrong(t, g, r, with(sectors, disk, turned))
				}
			}
		}
	}
	for _, g := range []api.Geom{at(5, 4, 2), at(6, 5, 1)} {
		sectors := sectorsOf(g, 6, several(3, width(g)))
		for disk := range sectors {
			for c := 1; c < 256; c++ {
				turned := slices.Clone(sectors[disk])
				turned[c%32] ^= byte(c)
				wrong(t, g, 6, with(sectors, disk, turned))
			}
		}
	}
}

// P13.1: two sectors turned alike agree again of level 5; of level 6 no two sectors turned do, since P and Q are both
// asked.
func TestTwoTurned(t *testing.T) {
	for i, g := range good() {
		for r := range api.Rows {
			sectors := sectorsOf(g, r, several(i*16+r, width(g)))
			for a := range sectors {
				for b := range a {
					for _, c := range []byte{5, 10, 133} {
						two := copied(sectors)
						two[a][r] ^= 5
						two[b][r] ^= c
						if right := row.Right(g, r, two...); right != (g.Level == 5 && c == 5) {
							t.Errorf("Right(%v, %d, %x): %v", g, r, two, right)
						}
					}
				}
			}
		}
	}
}

// P13.1: a row's sectors on the disks of another turn of parity: of level 5 they agree there too, as each is the others'
// sum; of level 6 they do not.
func TestOtherTurn(t *testing.T) {
	for i, g := range good() {
		for r := range api.Rows {
			sectors := sectorsOf(g, r, several(i*16+r, width(g)))
			for s := range api.Rows {
				turn := (r/g.Chunk-s/g.Chunk)%g.Disks == 0
				if right := row.Right(g, s, sectors...); right != (turn || g.Level == 5) {
					t.Errorf("Right(%v, %d, %x): %v", g, s, sectors, right)
				}
			}
		}
	}
}

// P13.1, the edges: level 5 and level 6 on as many disks are not one another's.
func TestOtherLevel(t *testing.T) {
	for disks := 4; disks <= api.MaxDisks; disks++ {
		five, six := at(5, disks, 1), at(6, disks, 1)
		for r := range api.Rows {
			a, b := several(r, disks-1), several(r, disks-2)
			unfilled(t, five, r, b...)
			unfilled(t, six, r, a...)
			wrong(t, six, r, sectorsOf(five, r, a))
			wrong(t, five, r, sectorsOf(six, r, b))
		}
	}
}

// P13.1, wrong inputs: geometries that may not be, with as many sectors as they ask, and others.
func TestWrongGeometries(t *testing.T) {
	for _, g := range bad() {
		for _, r := range []int{0, 1, 15, 16, -1} {
			for n := range 11 {
				unfilled(t, g, r, several(r, n)...)
				untaken(t, g, r, several(r, n)...)
				untaken(t, g, r, slices.Repeat([][]byte{full(0)}, n)...)
			}
		}
	}
}

// P13.1, wrong inputs and edges: rows below 0, and from the one behind the last on.
func TestWrongRows(t *testing.T) {
	for i, g := range good() {
		data := several(i, width(g))
		for _, r := range []int{0, api.Rows - 1} {
			stands(t, g, r, data, sectorsOf(g, r, data))
		}
		sectors := sectorsOf(g, 0, data)
		for _, r := range none {
			unfilled(t, g, r, data...)
			untaken(t, g, r, sectors...)
			untaken(t, g, r, without(sectors, 1)...)
			untaken(t, g, r, slices.Repeat([][]byte{full(0)}, g.Disks)...)
		}
	}
}

// P13.1, wrong inputs: too few and too many sectors, none among them, and a great many.
func TestWrongNumbers(t *testing.T) {
	for i, g := range good() {
		for _, r := range []int{0, 5, 15} {
			data := several(i*16+r, width(g))
			sectors := sectorsOf(g, r, data)
			for n := range 20 {
				other := several(n, n)
				copy(other, data)
				if n == width(g) {
					stands(t, g, r, data, sectors)
				} else {
					unfilled(t, g, r, other...)
				}
				other = slices.Concat(sectors, several(n, 20))[:n]
				if n != g.Disks {
					untaken(t, g, r, other...)
					untaken(t, g, r, without(other, 1)...)
					untaken(t, g, r, slices.Repeat([][]byte{full(0)}, n)...)
				}
			}
			unfilled(t, g, r)
			untaken(t, g, r)
			unfilled(t, g, r, nil)
			untaken(t, g, r, nil)
			unfilled(t, g, r, append(slices.Clone(data), nil)...)
			untaken(t, g, r, append(slices.Clone(sectors), nil)...)
			untaken(t, g, r, append(slices.Clone(sectors), []byte{})...)
			unfilled(t, g, r, slices.Repeat(data, 1000)...)
			untaken(t, g, r, slices.Repeat(sectors, 1000)...)
		}
	}
}

// P13.1, wrong inputs: a data sector that is nil, shorter or longer than a sector, at each place; what it lacks does not
// stand behind its length.
func TestWrongData(t *testing.T) {
	for _, g := range good() {
		data := several(7, width(g))
		for k := range data {
			for n := range 100 {
				x := mixed(n, 200)[:n]
				if other := with(data, k, x); n == api.Sector {
					stands(t, g, n%16, other, sectorsOf(g, n%16, other))
				} else {
					unfilled(t, g, n%16, other...)
				}
			}
			for _, x := range [][]byte{nil, {}, make([]byte, 64), make([]byte, 1<<16)} {
				unfilled(t, g, k, with(data, k, x)...)
			}
		}
		for _, n := range []int{0, 1, 31, 33, 64} {
			unfilled(t, g, n%16, slices.Repeat([][]byte{make([]byte, n)}, width(g))...)
		}
	}
}

// P13.1, wrong inputs: a sector that is there, but is no sector's bytes long, on each disk, of data or of parity, whether
// it is needed or not.
func TestWrongSectors(t *testing.T) {
	for _, g := range good() {
		for _, r := range []int{0, 6, 15} {
			data := several(r, width(g))
			sectors := sectorsOf(g, r, data)
			for disk := range sectors {
				for n := 1; n < 100; n++ {
					x := append(slices.Clone(sectors[disk]), mixed(n, 100)...)[:n]
					if n == api.Sector {
						stands(t, g, r, data, with(sectors, disk, x))
						continue
					}
					untaken(t, g, r, with(sectors, disk, x)...)
					untaken(t, g, r, with(with(sectors, (disk+1)%g.Disks, nil), disk, x)...)
				}
				untaken(t, g, r, with(sectors, disk, make([]byte, 1<<16))...)
			}
			for _, n := range []int{1, 31, 33, 64} {
				untaken(t, g, r, slices.Repeat([][]byte{make([]byte, n)}, g.Disks)...)
			}
		}
	}
}
