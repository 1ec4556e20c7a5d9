package rebuild_test

import (
	"testing"

	"wattle/api"
	"wattle/place"
	"wattle/rebuild"
	"wattle/row"
	"wattle/stripe"
	"wattle/update"
)

// P16.1: the chapter's example: of a live disk: ErrArg.
func TestExample(t *testing.T) {
	for _, g := range good() {
		for d := range g.Disks {
			b := newBench(t, g.Disks)
			is(t, "Disk", rebuild.Disk(b, everyone(g.Disks), d, g, api.Geom{}, 0), api.ErrArg)
		}
	}
}

// P16.1: by hand: rows of sectors of one byte each, and what then stands on each disk in turn.
func TestByHand(t *testing.T) {
	for _, r := range []struct {
		l    layout
		data string   // of each row from 0 on; the rows behind it are zeros
		want []string // of each disk: its bytes in these rows
	}{
		// P on 2, 1, 0, 2
		{layout{a: at(5, 3, 1)}, "\x01\x02\x04\x08\x10\x20\x03\x05", []string{"\x01\x08\x30\x03", "\x02\x0C\x10\x05", "\x03\x04\x20\x06"}},
		// P on 3, 3, 2, 2, 1; the data on the disks behind it
		{layout{a: at(5, 4, 2)}, "\x01\x02\x04\x01\x02\x08\x01\x02\x10\x01\x02\x20\x01\x02\x40",
			[]string{"\x01\x01\x02\x02\x40", "\x02\x02\x10\x20\x43", "\x04\x08\x13\x23\x01", "\x07\x0B\x01\x01\x02"}},
		// P on 3, 2, Q on 0, 3: 1 + 2 times 2, 1 + 80 times 2
		{layout{a: at(6, 4, 1)}, "\x01\x02\x01\x80", []string{"\x05\x01", "\x01\x80", "\x02\x81", "\x03\x1C"}},
		// Q is the first, and twice the second, and four times the third
		{layout{a: at(6, 5, 4)}, "\x01\x02\x04\x00\x00\x40", []string{"\x15\x1D", "\x01\x00", "\x02\x00", "\x04\x40", "\x07\x40"}},
		// Rows 0 and 1 are of four disks, P on 3 and 2; rows 2 and 3 of three, P on 0 and 2.
		{layout{at(5, 3, 1), at(5, 4, 1), 2}, "\x01\x02\x04\x01\x02\x04\x08\x10\x03\x05",
			[]string{"\x01\x02\x18\x03", "\x02\x04\x08\x05", "\x04\x07\x10\x06", "\x07\x01"}},
		// Row 0 is of level 6, P on 3, Q on 0; row 1 of level 5, P on 3 too.
		{layout{at(5, 4, 2), at(6, 4, 1), 1}, "\x01\x02\x01\x02\x04", []string{"\x05\x01", "\x01\x02", "\x02\x04", "\x03\x07"}},
	} {
		whole := newBench(t, r.l.disks())
		left := r.data
		for line := 0; left != ""; line++ {
			var data [][]byte
			for range width(r.l.of(line)) {
				data = append(data, full(left[0]))
				left = left[1:]
			}
			is(t, "Write", stripe.Write(whole, everyone(8), r.l.of(line), line, data...), api.OK)
		}
		is(t, "Flush", stripe.Flush(whole, everyone(8)), api.OK)
		for d, want := range r.want {
			b := whole.Clone()
			lose(t, b, d, d+1)
			is(t, "Disk", disk(b, but(b.Len(), d), d, r.l), api.OK)
			for line, c := range []byte(want) {
				stands(t, b, d, api.Data+line, full(c))
			}
			if b.Pending() != 0 {
				t.Error(r.l, d, "pending", b.Pending())
			}
		}
	}
}

// P16.1: of each geometry alone, each disk, on a bench of as many disks and on one of more, whatever the new disk has: it
// has each row as the lost one had, and nothing else on the bench is another; the geometry that no row is of is not asked.
func TestEachDisk(t *testing.T) {
	no := bad()
	for i, g := range good() {
		for _, disks := range []int{g.Disks, api.MaxDisks} {
			l := layout{a: g}
			whole := laid(t, l, disks)
			for d := range g.Disks {
				for turn := range 3 {
					l.to = []api.Geom{{}, no[(i*3+d)%len(no)], good()[i*5%33]}[(d+turn)%3]
					start := whole.Clone()
					lose(t, start, d, turn)
					b := renews(t, start, but(disks, d), d, l, 0)
					hasDisk(t, b, d, l)
					if b.Pending() != 0 || b.Writes()-start.Writes() != api.Rows {
						t.Error(l, d, b.Pending(), b.Writes()-start.Writes())
					}
				}
			}
		}
	}
}

// P16.1: all rows of the geometry to: it alone says what stands on the disk, whichever the other one is.
func TestAllRowsOfTheOther(t *testing.T) {
	all := good()
	for i, g := range all {
		for _, a := range []api.Geom{at(5, 3, 1), all[(i*7+3)%len(all)], at(6, 8, 4)} {
			l := layout{a, g, api.Rows}
			whole := laid(t, l, max(a.Disks, g.Disks))
			for d := range g.Disks {
				start := whole.Clone()
				lose(t, start, d, d)
				hasDisk(t, renews(t, start, but(start.Len(), d), d, l, 0), d, l)
			}
		}
	}
}

// P16.1: of each two geometries, alike or not, with some splits of all that there are: each disk is as the lost one was.
func TestTwoGeometries(t *testing.T) {
	for i, a := range good() {
		for k, to := range good() {
			l := layout{a, to, (i*5 + k*3) % (api.Rows + 1)}
			disks := max(a.Disks, to.Disks)
			whole := laid(t, l, disks)
			for d := (i + k) % 2; d < disks; d += 2 {
				start := whole.Clone()
				lose(t, start, d, i+k+d)
				hasDisk(t, renews(t, start, but(disks, d), d, l, 0), d, l)
			}
		}
	}
}

// P16.1: of some pairs of geometries each split, each disk.
func TestEachSplit(t *testing.T) {
	for _, l := range few()[4:] {
		for l.split = range api.Rows + 1 {
			whole := laid(t, l, 7)
			for d := range 7 {
				start := whole.Clone()
				lose(t, start, d, l.split+d)
				b := renews(t, start, but(7, d), d, l, 0)
				hasDisk(t, b, d, l)
				if n := b.Writes() - start.Writes(); n != rowsOn(l, d) {
					t.Error(l, d, n, "writes")
				}
			}
		}
	}
}

// P16.1: of rows that the disk is not in nothing is written: they stay as they are, on it and on all others; what is
// pending on the disk is settled all the same.
func TestRowsWithoutTheDisk(t *testing.T) {
	for _, l := range append(pairs(), few()...) {
		whole := laid(t, l, api.MaxDisks)
		for d := min(l.a.Disks, l.of(0).Disks); d < api.MaxDisks; d++ {
			start := whole.Clone()
			for line := range api.Rows {
				is(t, "Write by hand", start.Write(d, api.Data+line, full(byte(100+line))), api.OK)
			}
			b := renews(t, start, but(api.MaxDisks, d), d, l, 0)
			hasDisk(t, b, d, l)
			for line := range api.Rows {
				if d >= l.of(line).Disks {
					stands(t, b, d, api.Data+line, full(byte(100+line)))
				}
			}
			if b.Pending() != 0 || b.Writes()-start.Writes() != rowsOn(l, d) {
				t.Error(l, d, b.Pending(), b.Writes()-start.Writes())
			}
		}
	}
}

// P16.1: behind Disk, the disk live again, each row reads as it did, with no disk gone and with any other ones, as many
// as the level lets be; and each row agrees.
func TestReadsBehind(t *testing.T) {
	for _, l := range append(pairs(), few()...) {
		disks := l.disks()
		whole := laid(t, l, disks)
		for d := range disks {
			b := whole.Clone()
			lose(t, b, d, d)
			is(t, "Disk", disk(b, but(disks, d), d, l), api.OK)
			hasRows(t, b, everyone(disks), l)
			for other := range disks {
				if other == d {
					continue
				}
				hasRows(t, b, but(disks, other), l)
				if min(budget(l.a), budget(l.of(0))) == 2 {
					third := (other + 1 + d%(disks-1)) % disks
					hasRows(t, b, but(disks, other, third), l)
				}
			}
			for line := range api.Rows {
				var sectors [][]byte
				for k := range l.of(line).Disks {
					x, _ := b.Read(k, api.Data+line)
					sectors = append(sectors, x)
				}
				if !row.Right(l.of(line), line, sectors...) {
					t.Error(l, d, "row", line, "does not agree")
				}
			}
		}
	}
}

// P16.1: all rows, and which geometry has them, hang on the split alone: the places are those that package place names.
func TestAsPlace(t *testing.T) {
	for _, l := range pairs() {
		disks := l.disks()
		for d := range disks {
			b := laid(t, l, disks)
			lose(t, b, d, 0)
			is(t, "Disk", disk(b, but(disks, d), d, l), api.OK)
			for line := range api.Rows {
				g := l.of(line)
				kind, n, ok := place.Back(g, d, line)
				if !ok {
					stands(t, b, d, api.Data+line, full(0))
					continue
				}
				data := dataOf(g, line)
				p, q := sums(data)
				x := [][]byte{nil, p, q}[kind]
				for k, m := range place.Numbers(g, line) {
					if kind == api.Plain && m == n {
						x = data[k]
					}
				}
				stands(t, b, d, api.Data+line, x)
			}
		}
	}
}

// P16.1: the disk alone is flushed, and all that is pending on it; what is pending on the others still is, and counts as
// it stands.
func TestPendingBefore(t *testing.T) {
	for _, l := range few() {
		disks := l.disks()
		for d := range disks {
			b := painted(t, disks)
			for line := range api.Rows {
				is(t, "Write", stripe.Write(b, but(disks, d), l.of(line), line, dataOf(l.of(line), line)...), api.OK)
			}
			for _, at := range []int{api.SlotB, api.Backup, api.Size - 1} {
				is(t, "Write by hand", b.Write(d, at, full(7)), api.OK)
			}
			pending := b.Pending()
			b = renews(t, b, but(disks, d), d, l, 0)
			if b.Pending() != pending-3 {
				t.Error(l, d, b.Pending(), pending)
			}
			hasDisk(t, b, d, l)
			b.Crash()
			hasDisk(t, b, d, l)
			stands(t, b, d, api.SlotB, full(7))
		}
	}
}

// P16.1: a disk that is made anew once more is as it is; it is written all the same.
func TestAgain(t *testing.T) {
	for _, l := range few() {
		disks := l.disks()
		b := laid(t, l, disks)
		for d := range disks {
			b = renews(t, b, but(disks, d), d, l, 0)
			b = renews(t, b, but(disks, d), d, l, 0)
		}
		hasRows(t, b, everyone(disks), l)
	}
}

// P16.1: one disk after another, each of them lost and made anew: all is as it was.
func TestOneAfterAnother(t *testing.T) {
	for _, l := range append(pairs(), few()...) {
		disks := l.disks()
		b := laid(t, l, disks)
		for i := range 2 * disks {
			d := i * 3 % disks
			lose(t, b, d, i)
			is(t, "Disk", disk(b, but(disks, d), d, l), api.OK)
		}
		for d := range disks {
			hasDisk(t, b, d, l)
		}
	}
}

// P16.1: sectors that were written while the disk was out: behind Disk it has them too.
func TestWrittenWhileOut(t *testing.T) {
	for _, g := range good() {
		for d := range g.Disks {
			b, want := laid(t, layout{a: g}, g.Disks), laid(t, layout{a: g}, g.Disks)
			live := but(g.Disks, d)
			lose(t, b, d, d)
			for n := d; n < width(g)*api.Rows; n += 5 {
				x := mixed(n, api.Sector)
				is(t, "Do", update.Do(b, live, g, n, x, n+1), api.OK)
				is(t, "Do", update.Do(want, everyone(g.Disks), g, n, x, n+1), api.OK)
			}
			is(t, "Disk", rebuild.Disk(b, live, d, g, api.Geom{}, 0), api.OK)
			for k := range g.Disks {
				for line := range api.Rows {
					x, _ := want.Read(k, api.Data+line)
					stands(t, b, k, api.Data+line, x)
				}
			}
		}
	}
}

// P16.1: of a row whose sectors don't agree the disk gets what stripe.Read says of the others: of a data chunk, and of
// parity, what the data that stands there makes it; of the others none is mended.
func TestSpoilt(t *testing.T) {
	for _, g := range good() {
		whole := laid(t, layout{a: g}, g.Disks)
		for d := range g.Disks {
			b, live := whole.Clone(), but(g.Disks, d)
			for line := range api.Rows {
				set(t, b, (d+1+line%(g.Disks-1))%g.Disks, api.Data+line, mixed(line, api.Sector))
			}
			want := b.Clone()
			for line := range api.Rows {
				data, e := stripe.Read(b, live, g, line)
				is(t, "Read", e, api.OK)
				is(t, "Write by hand", want.Write(d, api.Data+line, sectorsOf(g, line, data)[d]), api.OK)
			}
			is(t, "Flush", want.Flush(d), api.OK)
			is(t, "Disk", rebuild.Disk(b, live, d, g, api.Geom{}, 0), api.OK)
			same(t, "spoilt", b, want)
		}
	}
}

// P16.1: of level 6 a spoilt Q changes no data chunk, nor P; a spoilt P does not change Q.
func TestSpoiltParity(t *testing.T) {
	for _, g := range good() {
		if g.Level != 6 {
			continue
		}
		for d := range g.Disks {
			b, l := laid(t, layout{a: g}, g.Disks), layout{a: g}
			for line := range api.Rows {
				what := deal(g, line)
				for k, part := range what {
					if what[d] != onQ && part == onQ || what[d] == onQ && part == onP {
						set(t, b, k, api.Data+line, full(0xEE))
					}
				}
			}
			lose(t, b, d, 1)
			is(t, "Disk", disk(b, but(g.Disks, d), d, l), api.OK)
			hasDisk(t, b, d, l)
		}
	}
}
