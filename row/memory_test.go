package row_test

import (
	"bytes"
	"slices"
	"testing"

	"wattle/api"
	"wattle/row"
)

// spread is the sectors side by side in one memory, each with bytes behind its length, and that memory.
func spread(l [][]byte) (parts [][]byte, all []byte) {
	for i, x := range l {
		all = append(append(all, x...), mixed(i, 8)...)
	}
	at := 0
	for _, x := range l {
		parts = append(parts, all[at:at+len(x)])
		at += len(x) + 8
	}
	return parts, all
}

// roomy is the list with sectors behind its length.
func roomy(l [][]byte) (short, all [][]byte) {
	all = append(slices.Clone(l), full(7), full(8))
	return all[:len(l)], all
}

// answer is a call that answers sectors.
type answer func(g api.Geom, r int, l ...[]byte) ([][]byte, bool)

// asked is a call, and what it is asked, of a row of a geometry: Fill of data, Take of sectors, and of some of these.
type asked struct {
	call answer
	l    [][]byte
}

// questions is what a row of a geometry is asked in these tests.
func questions(g api.Geom, r int) []asked {
	data := several(r+50, width(g))
	sectors := sectorsOf(g, r, data)
	l := []asked{{row.Fill, data}, {row.Take, sectors}}
	for gone := range 1 << g.Disks {
		if n := digits(gone); n > 0 && n <= budget(g) {
			l = append(l, asked{row.Take, without(sectors, gone)})
		}
	}
	return l
}

// some is geometries of either level, with few disks and many.
var some = []api.Geom{at(5, 3, 1), at(5, 5, 2), at(5, 8, 4), at(6, 4, 4), at(6, 6, 1), at(6, 8, 2)}

// R4: what is handed in is as it was, behind its length too, where a call answers and where it answers false.
func TestHandedIn(t *testing.T) {
	for _, g := range some {
		for _, r := range []int{0, 3, 15, 16, -1} {
			for i, x := range questions(g, max(0, r%16)) {
				parts, memory := spread(x.l)
				short, list := roomy(parts)
				was, wasList := slices.Clone(memory), copied(list)
				x.call(g, r, short...)
				row.Right(g, r, short...)
				row.Fill(g, r, short...)
				row.Take(g, r, short...)
				if !bytes.Equal(memory, was) || !alike(list, wasList) {
					t.Errorf("%v, %d, %d: changed", g, r, i)
				}
			}
		}
	}
}

// R4: what lies behind a sector's length, and behind the list's, is not read.
func TestBehind(t *testing.T) {
	for _, g := range some {
		for i, x := range questions(g, 5) {
			want, _ := x.call(g, 5, x.l...)
			parts, memory := spread(x.l)
			short, list := roomy(parts)
			for at := range memory {
				memory[at] ^= 255
			}
			for k, part := range short {
				copy(part, x.l[k])
			}
			list[len(short)] = nil
			if got, ok := x.call(g, 5, short...); !ok || !alike(got, want) {
				t.Errorf("%v, %d: %x, %v; want %x", g, i, got, ok, want)
			}
		}
	}
}

// R4: changing what was given back changes nothing that was handed in, and the other way round.
func TestApart(t *testing.T) {
	for _, g := range some {
		for i, x := range questions(g, 9) {
			l := copied(x.l)
			got, _ := x.call(g, 9, l...)
			was := copied(got)
			for _, part := range l {
				for at := range part {
					part[at] ^= 255
				}
			}
			clear(l)
			if !alike(got, was) {
				t.Errorf("%v, %d: what was given back is what was handed in", g, i)
			}
			l = copied(x.l)
			got, _ = x.call(g, 9, l...)
			for k := range got {
				got[k] = append(got[k][:0], full(99)...)
			}
			clear(got)
			if !alike(l, x.l) {
				t.Errorf("%v, %d: what was handed in is what was given back", g, i)
			}
		}
	}
}

// R4: no two sectors of an answer share memory, nor room behind them, though one sector was handed in at several places;
// nor do two answers.
func TestOwnMemory(t *testing.T) {
	for _, g := range some {
		x := mixed(3, 32)
		data := slices.Repeat([][]byte{x}, width(g))
		zeros := slices.Repeat([][]byte{full(0)}, g.Disks)
		for i, q := range append(questions(g, 2), asked{row.Fill, data}, asked{row.Take, zeros}, asked{row.Take, without(zeros, 4)}) {
			first, _ := q.call(g, 2, q.l...)
			second, _ := q.call(g, 2, q.l...)
			was := copied(second)
			for k := range first {
				for at := range first[k] {
					first[k][at] ^= byte(1 + k)
				}
				_ = append(first[k], full(77)...)
			}
			for k := range first {
				for at := range first[k] {
					if first[k][at] != was[k][at]^byte(1+k) {
						t.Fatalf("%v, %d: sector %d shares memory", g, i, k)
					}
				}
			}
			if !alike(second, was) {
				t.Errorf("%v, %d: two answers share memory", g, i)
			}
		}
	}
}

// R5: the same question has the same answer, whatever was asked between.
func TestAgain(t *testing.T) {
	for _, g := range some {
		l := questions(g, 12)
		var want [][][]byte
		for _, x := range l {
			got, _ := x.call(g, 12, x.l...)
			want = append(want, got)
		}
		for _, h := range good() {
			row.Fill(h, 3, several(1, width(h))...)
			row.Take(h, 3, several(1, h.Disks)...)
		}
		for i := len(l) - 1; i >= 0; i-- {
			if got, ok := l[i].call(g, 12, l[i].l...); !ok || !alike(got, want[i]) {
				t.Errorf("%v, %d: %x, %v; want %x", g, i, got, ok, want[i])
			}
		}
	}
}

// R4: nil and the empty list are the same, as a list and as a sector.
func TestNilAndEmpty(t *testing.T) {
	for _, g := range some {
		data := several(4, width(g))
		sectors := sectorsOf(g, 4, data)
		for disk := range sectors {
			takes(t, g, 4, with(sectors, disk, nil), data)
			takes(t, g, 4, with(sectors, disk, []byte{}), data)
			takes(t, g, 4, with(sectors, disk, sectors[disk][:0]), data)
		}
		for _, l := range [][][]byte{nil, {}, sectors[:0]} {
			unfilled(t, g, 4, l...)
			untaken(t, g, 4, l...)
		}
		unfilled(t, g, 4, make([][]byte, width(g))...)
		untaken(t, g, 4, make([][]byte, g.Disks)...)
	}
}
