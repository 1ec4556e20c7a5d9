package scrub_test

import (
	"slices"
	"testing"

	"wattle/api"
	"wattle/scrub"
)

// P17.1: the chapter's example: of a new bench none, of each geometry, and of two at each split.
func TestExample(t *testing.T) {
	for i, a := range good() {
		for _, disks := range []int{1, a.Disks, api.MaxDisks} {
			tells(t, newBench(t, disks), everyone(disks), layout{a: a})
			for split := range api.Rows + 1 {
				tells(t, newBench(t, disks), everyone(disks), layout{a, good()[(i*7+split)%33], split})
			}
		}
	}
}

// P17.1: by hand: the sectors' bytes on each disk, row by row, and which of them agree.
func TestByHand(t *testing.T) {
	for i, r := range []struct {
		l     layout
		disks []string // of each disk: its bytes in the rows from 0 on; the rows behind them are zeros
		want  []int
	}{
		// P is the sum of the others, on whichever disk it stands.
		{layout{a: at(5, 3, 1)}, []string{"\x01\x08\x30\x03", "\x02\x0C\x10\x05", "\x03\x04\x20\x06"}, nil},
		{layout{a: at(5, 3, 1)}, []string{"\x01\x08\x31\x03", "\x02\x0D\x10\x05", "\x03\x04\x20\x06"}, []int{1, 2}},
		{layout{a: at(5, 4, 2)}, []string{"\x01\x80", "\x02\x40", "\x04\x20", "\x07\xE1"}, []int{1}},
		// P on 3, 2, Q on 0, 3: 1 + 2 times 2, 1 + 80 times 2
		{layout{a: at(6, 4, 1)}, []string{"\x05\x01", "\x01\x80", "\x02\x81", "\x03\x1C"}, nil},
		{layout{a: at(6, 4, 1)}, []string{"\x04\x01", "\x01\x80", "\x02\x81", "\x03\x1D"}, []int{0, 1}}, // Q
		{layout{a: at(6, 4, 1)}, []string{"\x05\x01", "\x01\x80", "\x02\x80", "\x02\x1C"}, []int{0, 1}}, // P
		// With chunks of two sectors P stays on 3 in row 1, and Q on 0.
		{layout{a: at(6, 4, 2)}, []string{"\x05\x01", "\x01\x80", "\x02\x81", "\x03\x1C"}, []int{1}},
		{layout{a: at(6, 4, 2)}, []string{"\x05\x1C", "\x01\x01", "\x02\x80", "\x03\x81"}, nil},
		// Q is the first, and twice the second, and four times the third.
		{layout{a: at(6, 5, 4)}, []string{"\x15\x1D\x15", "\x01\x00\x01", "\x02\x00\x04", "\x04\x40\x02", "\x07\x40\x07"}, []int{2}},
		// Rows 0 and 1 are of four disks; rows 2 and 3 of three, whatever stands on the fourth one.
		{layout{at(5, 3, 1), at(5, 4, 1), 2}, []string{"\x01\x01\x01\x01", "\x02\x02\x02\x02", "\x03\x03\x03\x03", "\x00\x09\x00\x09"}, []int{1}},
		{layout{at(5, 4, 1), at(5, 3, 1), 2}, []string{"\x01\x01\x01\x01", "\x02\x02\x02\x02", "\x03\x03\x03\x03", "\x00\x09\x00\x09"}, []int{3}},
		// Row 0 is of level 6, P on 3, Q on 0; row 1 of level 5.
		{layout{at(5, 4, 2), at(6, 4, 1), 1}, []string{"\x05\x05", "\x01\x01", "\x02\x02", "\x03\x03"}, []int{1}},
		{layout{at(5, 4, 2), at(6, 4, 1), 2}, []string{"\x05\x03", "\x01\x03", "\x02\x02", "\x03\x02"}, []int{1}},
		{layout{at(5, 4, 2), at(6, 4, 1), 0}, []string{"\x05\x03", "\x01\x03", "\x02\x02", "\x03\x02"}, []int{0}},
	} {
		b := newBench(t, len(r.disks))
		for d, bytes := range r.disks {
			for line, c := range []byte(bytes) {
				set(t, b, d, api.Data+line, full(c))
			}
		}
		if got, e := rows(b, everyone(8), r.l); e != api.OK || !slices.Equal(got, r.want) {
			t.Error(i, r.l, got, e, "want", r.want)
		}
	}
}

// P17.1: of an array of one geometry that is filled none, on a bench of as many disks and on one of more; the geometry
// that no row is of is not asked.
func TestFilled(t *testing.T) {
	no := bad()
	for i, g := range good() {
		for disks := g.Disks; disks <= api.MaxDisks; disks++ {
			b := laid(t, layout{a: g}, disks)
			for k, to := range []api.Geom{{}, g, no[(i*3+disks)%len(no)], good()[(i*5+disks)%33]} {
				tells(t, b, everyone(disks+k), layout{a: g, to: to})
			}
			tells(t, b, everyone(disks), layout{a: good()[(i*5+disks)%33], to: g, split: api.Rows})
		}
	}
}

// P17.1: of each two geometries, alike or not, with some splits of all that there are: filled, none; with one sector
// turned in one byte, just that row.
func TestTwoGeometries(t *testing.T) {
	for i, a := range good() {
		for k, to := range good() {
			for n := range 2 {
				l := layout{a, to, (i*5 + k*3 + n*8) % (api.Rows + 1)}
				disks := max(a.Disks, to.Disks)
				b := laid(t, l, disks)
				tells(t, b, everyone(disks), l)
				line := (i + k*7 + n) % api.Rows
				turn(t, b, (i+k)%l.of(line).Disks, line, (i*3+k)%api.Sector, byte(1<<(k%8)))
				tells(t, b, everyone(disks), l, line)
			}
		}
	}
}

// P17.1: of some pairs of geometries each split: filled, none; each row spoilt by itself, just that one; all, all.
func TestEachSplit(t *testing.T) {
	for _, l := range few()[4:] {
		for l.split = range api.Rows + 1 {
			b := laid(t, l, 7)
			tells(t, b, everyone(7), l)
			for line := range api.Rows {
				d := (line + l.split) % l.of(line).Disks
				turn(t, b, d, line, line, 0x40)
				tells(t, b, everyone(7), l, line)
				turn(t, b, d, line, line, 0x40)
			}
			for line := range api.Rows {
				turn(t, b, 0, line, line, 0x40)
			}
			tells(t, b, everyone(7), l, allRows()...)
		}
	}
}

// P17.1: one sector turned in one byte, on each disk of each row of each geometry, data and parity: just that row; turned
// back, none.
func TestEachSector(t *testing.T) {
	layouts := append(few(), pairs()...)
	for _, g := range good() {
		layouts = append(layouts, layout{a: g})
	}
	for i, l := range layouts {
		disks := l.disks()
		b := laid(t, l, disks)
		for line := range api.Rows {
			for d := range l.of(line).Disks {
				turn(t, b, d, line, (i+line*5+d*3)%api.Sector, 1<<((line+d)%8))
				tells(t, b, everyone(disks), l, line)
				turn(t, b, d, line, (i+line*5+d*3)%api.Sector, 1<<((line+d)%8))
				tells(t, b, everyone(disks), l)
			}
		}
	}
}

// P17.1: each byte of a sector counts, and each digit of it, on each disk of a row.
func TestEachByte(t *testing.T) {
	for _, l := range []layout{{a: at(5, 3, 2)}, {at(5, 3, 1), at(6, 5, 4), 4}} {
		disks := l.disks()
		for _, line := range []int{0, 3, 4, 15} {
			b := laid(t, l, disks)
			for d := range l.of(line).Disks {
				for i := range api.Sector {
					for _, digits := range []byte{1, 2, 4, 8, 16, 32, 64, 128, 255} {
						turn(t, b, d, line, i, digits)
						tells(t, b, everyone(disks), l, line)
						turn(t, b, d, line, i, digits)
					}
				}
			}
			tells(t, b, everyone(disks), l)
		}
	}
}

// P17.1: several rows spoilt: just these, rising, in whichever order they were; all of them: all; mended, none again.
func TestSeveral(t *testing.T) {
	for i, l := range append(few(), layout{a: at(6, 8, 1)}) {
		disks := l.disks()
		b := laid(t, l, disks)
		spoilt := 0
		for n := 1; n <= 400; n++ {
			line := (n*n*7 + n*5 + n>>3 + i) % api.Rows
			d := (line*3 + i) % l.of(line).Disks
			turn(t, b, d, line, line, 9)
			spoilt ^= 1 << line
			tells(t, b, everyone(disks), l, rowsIn(spoilt)...)
		}
		for line := api.Rows - 1; line >= 0; line-- {
			if spoilt>>line&1 == 0 {
				turn(t, b, (line*3+i)%l.of(line).Disks, line, line, 9)
			}
		}
		tells(t, b, everyone(disks), l, allRows()...)
		for line := range api.Rows {
			turn(t, b, (line*3+i)%l.of(line).Disks, line, line, 9)
		}
		tells(t, b, everyone(disks), l)
	}
}

// P17.1: each choice of eight rows, spoilt or not.
func TestEachChoice(t *testing.T) {
	l := layout{at(5, 3, 1), at(6, 4, 1), 8}
	b := laid(t, l, 4)
	gray := 0
	for n := 1; n < 1<<8; n++ {
		line := 0
		for n>>line&1 == 0 {
			line++
		}
		turn(t, b, line%3, line*2, 4, 0x81)
		gray ^= 1 << (line * 2)
		tells(t, b, everyone(4), l, rowsIn(gray)...)
	}
}

// P17.1: all sectors of a row spoilt, each in its own way: the row is told, and once.
func TestWholeRow(t *testing.T) {
	for _, l := range few() {
		disks := l.disks()
		for line := range api.Rows {
			b := laid(t, l, disks)
			for d := range l.of(line).Disks {
				set(t, b, d, api.Data+line, mixed(d*31+line, api.Sector))
			}
			tells(t, b, everyone(disks), l, line)
		}
	}
}

// P17.1: of level 5 two sectors changed together, whichever two: the row agrees; changed in the same byte but not alike,
// or alike but not in the same byte, it does not.
func TestTwoTogether(t *testing.T) {
	for _, g := range good() {
		if g.Level == 6 {
			continue
		}
		l, live := layout{a: g}, everyone(g.Disks)
		for d := range g.Disks {
			for other := range d {
				line := (d*5 + other*3) % api.Rows
				b := laid(t, l, g.Disks)
				turn(t, b, d, line, 5, 0x24)
				tells(t, b, live, l, line)
				turn(t, b, other, line, 5, 0x24)
				tells(t, b, live, l)
				turn(t, b, other, line, 5, 0x20)
				tells(t, b, live, l, line)
				turn(t, b, other, line, 5, 0x04)
				turn(t, b, other, line, 6, 0x24)
				tells(t, b, live, l, line)
			}
		}
	}
}

// P17.1: of level 6 two sectors changed together, so that P or Q alone agrees: the row does not; changed with the third,
// it does.
func TestThreeTogether(t *testing.T) {
	for _, g := range good() {
		if g.Level == 5 {
			continue
		}
		l, live := layout{a: g}, everyone(g.Disks)
		for line := range api.Rows {
			p, q := on(g, line, onP), on(g, line, onQ)
			digits := byte(0x31)
			for k := range width(g) {
				b, own := laid(t, l, g.Disks), on(g, line, k)
				turn(t, b, own, line, 7, 0x31)
				turn(t, b, p, line, 7, 0x31)
				tells(t, b, live, l, line)
				turn(t, b, q, line, 7, digits) // 0x31 times 2 to the k
				tells(t, b, live, l)
				turn(t, b, p, line, 7, 0x31)
				tells(t, b, live, l, line)
				turn(t, b, own, line, 7, 0x31)
				tells(t, b, live, l, line)
				turn(t, b, q, line, 7, digits)
				tells(t, b, live, l)
				digits = twice(digits)
			}
			b := laid(t, l, g.Disks)
			turn(t, b, p, line, 7, 1)
			turn(t, b, q, line, 7, 1)
			tells(t, b, live, l, line)
			b = laid(t, l, g.Disks)
			turn(t, b, on(g, line, 0), line, 7, 2)
			turn(t, b, on(g, line, 1), line, 7, 2) // P agrees
			tells(t, b, live, l, line)
			b = laid(t, l, g.Disks)
			turn(t, b, on(g, line, 0), line, 7, 2)
			turn(t, b, on(g, line, 1), line, 7, 1) // Q agrees
			tells(t, b, live, l, line)
		}
	}
}

// P17.1: a row of other data agrees too.
func TestOtherData(t *testing.T) {
	for i, l := range append(few(), pairs()...) {
		disks := l.disks()
		b := laid(t, l, disks)
		for line := range api.Rows {
			lay(t, b, l.of(line), line, dataOf(at(5, 8, 1), i+line*3)[:width(l.of(line))])
			tells(t, b, everyone(disks), l)
		}
	}
}

// P17.1: what stands in a row on disks that the row's geometry does not have is nothing to it, nor is what stands in
// sectors that are no rows.
func TestElsewhere(t *testing.T) {
	for _, l := range append(few(), pairs()...) {
		b := laid(t, l, api.MaxDisks)
		live := everyone(api.MaxDisks)
		for line := range api.Rows {
			for d := l.of(line).Disks; d < api.MaxDisks; d++ {
				set(t, b, d, api.Data+line, full(byte(d*16+line)))
			}
		}
		tells(t, b, live, l)
		for at := range api.Data {
			for d := range api.MaxDisks {
				set(t, b, d, at, mixed(at*d, api.Sector))
			}
		}
		tells(t, b, live, l)
		turn(t, b, 1, 9, 0, 1)
		tells(t, b, live, l, 9)
	}
}

// P17.1: a bench asked by another split, or by another geometry, than it was filled by: just the rows that do not agree as
// it is asked.
func TestAskedOtherwise(t *testing.T) {
	all, told := good(), 0
	for i, l := range pairs() {
		b := laid(t, l, api.MaxDisks)
		for _, x := range []layout{
			{l.a, l.to, (l.split + 3) % 17}, {l.a, l.to, 0}, {l.a, l.to, api.Rows}, {l.to, l.a, l.split},
			{l.a, all[(i*7+1)%33], l.split}, {all[(i*5+2)%33], l.to, l.split},
		} {
			want := wanted(b, everyone(8), x)
			tells(t, b, everyone(8), x, want...)
			told += len(want)
		}
	}
	if told == 0 {
		t.Error("none")
	}
}

// P17.1: a sector whose spoiling is pending counts as it stands; a crash that undoes it mends it, one that keeps it does
// not.
func TestPendingSpoilt(t *testing.T) {
	for _, l := range few() {
		disks := l.disks()
		live := everyone(disks)
		for line := range api.Rows {
			for d := range l.of(line).Disks {
				b := laid(t, l, disks)
				is(t, "Write", b.Write(d, api.Data+line, mixed(77, api.Sector)), api.OK)
				tells(t, b, live, l, line)
				c, f := b.Clone(), b.Clone()
				b.Crash()
				tells(t, b, live, l)
				c.Crash(true)
				tells(t, c, live, l, line)
				is(t, "Flush", f.Flush(d), api.OK)
				tells(t, f, live, l, line)
				f.Crash()
				tells(t, f, live, l, line)
			}
		}
	}
}

// P17.1: and one that is spoilt, and whose mending is pending, the other way round.
func TestPendingMended(t *testing.T) {
	for _, l := range few() {
		disks := l.disks()
		live := everyone(disks)
		for line := range api.Rows {
			d := line % l.of(line).Disks
			b := laid(t, l, disks)
			x := get(t, b, d, api.Data+line)
			turn(t, b, d, line, 0, 1)
			is(t, "Write", b.Write(d, api.Data+line, x), api.OK)
			tells(t, b, live, l)
			c := b.Clone()
			b.Crash()
			tells(t, b, live, l, line)
			c.Crash(true)
			tells(t, c, live, l)
		}
	}
}

// P17.1: a scrub changes nothing: not what stands on the disks, not what is pending, not how many writes were done, nor
// how many are left.
func TestChangesNothing(t *testing.T) {
	for i, l := range append(few(), pairs()...) {
		disks := l.disks()
		b := laid(t, l, disks)
		for n := range 3 * disks {
			is(t, "Write", b.Write(n%disks, api.Data+n*7%api.Rows, mixed(n, api.Sector)), api.OK)
		}
		if len(wanted(b, everyone(disks), l)) == 0 {
			t.Error(l, "none is spoilt")
		}
		b.Limit(i % 5)
		for _, live := range [][]bool{everyone(disks), but(disks, i%disks), nil} {
			was := b.Clone()
			tells(t, b, live, l, wanted(b, live, l)...)
			same(t, "scrubbed", b, was)
			b.Fail((i + 1) % disks)
		}
	}
}

// P17.1: a limit that no write has gone past is no want of power, also if it lets none be done.
func TestLimit(t *testing.T) {
	for _, l := range few() {
		b := laid(t, l, l.disks())
		turn(t, b, 1, 6, 3, 3)
		for _, limit := range []int{0, 1, 7, -1} {
			b.Limit(limit)
			tells(t, b, everyone(l.disks()), l, 6)
			tells(t, b, everyone(l.disks()), l, 6)
		}
	}
}

// P17.1: the call by its own name, with each argument where the chapter has it.
func TestArguments(t *testing.T) {
	a, to := at(5, 3, 1), at(6, 5, 2)
	b := laid(t, layout{a, to, 4}, 5)
	turn(t, b, 4, 3, 0, 1)
	turn(t, b, 4, 4, 0, 1)
	turn(t, b, 2, 5, 0, 1)
	if bad, e := scrub.Rows(b, everyone(5), a, to, 4); e != api.OK || !slices.Equal(bad, []int{3, 5}) {
		t.Error(bad, e)
	}
}
