package update_test

import (
	"testing"

	"wattle/api"
	"wattle/bench"
	"wattle/place"
	"wattle/record"
	"wattle/row"
	"wattle/stripe"
	"wattle/update"
)

// P15.1: the chapter's example: Plan of level 5: two items; of level 6 three.
func TestExample(t *testing.T) {
	for _, g := range good() {
		for n := range order(g) {
			r, e := update.Plan(newBench(t, g.Disks), everyone(g.Disks), g, n, full(9), 1)
			if e != api.OK || len(r.Items) != g.Level-3 {
				t.Error(g, n, r, e)
			}
		}
	}
}

// P15.1: by hand: row 0 or another one of sectors of one byte each; then one of them is x.
func TestByHand(t *testing.T) {
	for _, r := range []struct {
		g    api.Geom
		row  int
		data string
		n    int
		x    byte
		want []record.Item // Data: its byte
	}{
		{at(5, 3, 1), 0, "\x01\x02", 0, 4, []record.Item{{Disk: 0, At: 36, Data: []byte{4}}, {Disk: 2, At: 36, Data: []byte{6}}}},
		{at(5, 3, 1), 0, "\x01\x02", 1, 4, []record.Item{{Disk: 1, At: 36, Data: []byte{4}}, {Disk: 2, At: 36, Data: []byte{5}}}},
		{at(5, 3, 1), 1, "\x01\x02", 2, 4, []record.Item{{Disk: 2, At: 37, Data: []byte{4}}, {Disk: 1, At: 37, Data: []byte{6}}}},
		{at(5, 3, 2), 1, "\x01\x02", 3, 8, []record.Item{{Disk: 1, At: 37, Data: []byte{8}}, {Disk: 2, At: 37, Data: []byte{9}}}},
		{at(5, 3, 4), 15, "\xF0\x3C", 31, 0xFF, []record.Item{{Disk: 1, At: 51, Data: []byte{0xFF}}, {Disk: 2, At: 51, Data: []byte{0x0F}}}},
		// Of level 6: P on the last disk, Q on disk 0, the data behind it; Q is the first + the second times 2 + ..
		{at(6, 5, 1), 0, "\x01\x02\x04", 1, 3, []record.Item{{Disk: 2, At: 36, Data: []byte{3}}, {Disk: 4, At: 36, Data: []byte{6}}, {Disk: 0, At: 36, Data: []byte{23}}}},
		{at(6, 5, 1), 0, "\x01\x02\x04", 0, 0, []record.Item{{Disk: 1, At: 36, Data: []byte{0}}, {Disk: 4, At: 36, Data: []byte{6}}, {Disk: 0, At: 36, Data: []byte{20}}}},
		// 80 times 2 is 1D.
		{at(6, 4, 4), 3, "\x01\x02", 7, 0x80, []record.Item{{Disk: 2, At: 39, Data: []byte{0x80}}, {Disk: 3, At: 39, Data: []byte{0x81}}, {Disk: 0, At: 39, Data: []byte{0x1C}}}},
		{at(6, 4, 2), 2, "\x01\x80", 4, 2, []record.Item{{Disk: 0, At: 38, Data: []byte{2}}, {Disk: 2, At: 38, Data: []byte{0x82}}, {Disk: 3, At: 38, Data: []byte{0x1F}}}},
	} {
		b, live := newBench(t, r.g.Disks), everyone(r.g.Disks)
		var data [][]byte
		for _, c := range []byte(r.data) {
			data = append(data, full(c))
		}
		is(t, "Write", stripe.Write(b, live, r.g, r.row, data...), api.OK)
		is(t, "Flush", stripe.Flush(b, live), api.OK)
		want := record.Record{Seq: 77, Items: r.want}
		for i := range want.Items {
			want.Items[i].Data = full(want.Items[i].Data[0])
		}
		plans(t, b, live, r.g, r.n, full(r.x), 77, want, api.OK)
		does(t, b, live, r.g, r.n, full(r.x), 77)
		for _, x := range want.Items {
			stands(t, b, x.Disk, x.At, x.Data)
		}
		newest(t, b, live, want)
		hasOne(t, b, live, r.g, r.n, full(r.x))
	}
}

// P15.1: of each geometry, each sector: Plan's record is the sectors of its own disk, P, Q, and Plan writes nothing.
func TestPlanOfEachSector(t *testing.T) {
	for _, g := range good() {
		b := laid(t, g, g.Disks)
		for n, s := range order(g) {
			x := mixed(n+5, api.Sector)
			plans(t, b, everyone(g.Disks), g, n, x, n+1, planned(g, s, changed(g, s, x), 0, n+1), api.OK)
		}
	}
}

// P15.1: the places are those that package place names.
func TestAsPlace(t *testing.T) {
	for _, g := range good() {
		b := laid(t, g, g.Disks)
		for n := range order(g) {
			r, e := update.Plan(b, everyone(g.Disks), g, n, full(1), 3)
			own, line, _ := place.Of(g, n)
			p, q := place.Parity(g, line)
			want := []int{own, p, q}[:g.Level-3]
			for i, x := range r.Items {
				if e != api.OK || x.Disk != want[i] || x.At != api.Data+line {
					t.Error(g, n, r, e)
				}
			}
		}
	}
}

// P15.1: of each geometry, each sector: what Do wrote is what is to be written by hand, the log first, and nothing else,
// also on disks that the geometry does not have; nothing is pending; the log's newest record is the one of that number;
// the sector reads as x.
func TestDoOfEachSector(t *testing.T) {
	for _, g := range good() {
		for _, disks := range []int{g.Disks, api.MaxDisks} {
			whole := laid(t, g, disks)
			for n, s := range order(g) {
				if disks != g.Disks && n%5 != 0 {
					continue
				}
				x := mixed(n+5, api.Sector)
				r := planned(g, s, changed(g, s, x), 0, n+1)
				b, want := whole.Clone(), whole.Clone()
				does(t, b, everyone(disks), g, n, x, n+1)
				doByHand(want, everyone(disks), r)
				same(t, "done", b, want)
				newest(t, b, everyone(disks), r)
				hasOne(t, b, everyone(disks), g, n, x)
				if b.Pending() != 0 {
					t.Error(g, n, "pending", b.Pending())
				}
			}
		}
	}
}

// P15.1: behind Do all other sectors of the geometry read as they did, and each row agrees.
func TestOthersAsTheyWere(t *testing.T) {
	for _, g := range good() {
		whole, all := laid(t, g, g.Disks), order(g)
		for n := 0; n < len(all); n += 7 {
			b, x := whole.Clone(), mixed(n+50, api.Sector)
			does(t, b, everyone(g.Disks), g, n, x, 1)
			for m, s := range all {
				if m == n {
					hasOne(t, b, everyone(g.Disks), g, m, x)
				} else {
					hasOne(t, b, everyone(g.Disks), g, m, dataOf(g, s.row)[s.k])
				}
			}
			for line := range api.Rows {
				if !right(b, g, line) {
					t.Error(g, n, "row", line, "does not agree")
				}
			}
		}
	}
}

// right tells whether a row on the bench agrees.
func right(b *bench.Bench, g api.Geom, line int) bool {
	l := make([][]byte, g.Disks)
	for d := range l {
		l[d], _ = b.Read(d, api.Data+line)
	}
	return row.Right(g, line, l...)
}

// P15.1: several Do's one behind the other, of one sector, of a whole row, of all sectors in another order: each sector is
// as it was made last, each row agrees, also behind a crash.
func TestSeveral(t *testing.T) {
	for _, g := range good() {
		b, live, all := laid(t, g, g.Disks), everyone(g.Disks), order(g)
		now := make([][][]byte, api.Rows)
		for line := range now {
			now[line] = copied(dataOf(g, line))
		}
		seq := 0
		do := func(n, seed int) {
			seq++
			x, s := mixed(seed, api.Sector), all[n]
			does(t, b, live, g, n, x, seq)
			now[s.row][s.k] = x
			newest(t, b, live, planned(g, s, now[s.row], 0, seq))
		}
		for i := range 5 {
			do(3, i)
		}
		for n, s := range all {
			if s.row == 2 {
				do(n, n)
			}
		}
		for i := range all {
			do((i*11+2)%len(all), i+9) // each of them once: no geometry's number of sectors has the factor 11
		}
		b.Crash()
		for line := range api.Rows {
			agrees(t, b, g, line, now[line], 0)
		}
		for n, s := range all {
			hasOne(t, b, live, g, n, now[s.row][s.k])
		}
	}
}

// P15.1: x as the sector is already: it is written all the same.
func TestSameAgain(t *testing.T) {
	for _, g := range some() {
		for n, s := range order(g) {
			b := laid(t, g, g.Disks)
			want, r := b.Clone(), planned(g, s, dataOf(g, s.row), 0, 8)
			does(t, b, everyone(g.Disks), g, n, dataOf(g, s.row)[s.k], 8)
			doByHand(want, everyone(g.Disks), r)
			same(t, "done", b, want)
		}
	}
}

// P15.1: the smallest and the greatest number that a record may have, and numbers with each byte of its own.
func TestNumbers(t *testing.T) {
	for _, g := range some() {
		s := order(g)[5]
		for _, seq := range []int{1, 2, 255, 256, 65535, 65536, 0x01020304, 1 << 30, greatest - 1, greatest} {
			b, x := laid(t, g, g.Disks), full(byte(seq))
			r := planned(g, s, changed(g, s, x), 0, seq)
			plans(t, b, everyone(g.Disks), g, 5, x, seq, r, api.OK)
			does(t, b, everyone(g.Disks), g, 5, x, seq)
			newest(t, b, everyone(g.Disks), r)
			is(t, "Empty", update.Empty(b, everyone(g.Disks), seq), api.OK)
			newest(t, b, everyone(g.Disks), record.Record{Seq: seq})
		}
	}
}

// P15.1: behind Empty the newest record is the one of that number, without items, whether or not there was one with some;
// all sectors but the log's are as they were, and nothing is pending.
func TestEmpty(t *testing.T) {
	for disks := 1; disks <= api.MaxDisks; disks++ {
		for x := range 1 << disks {
			b, live := painted(t, disks), choice(x, disks)
			if x&1 == 1 {
				putByHand(b, live, record.Record{Seq: 6, Items: []record.Item{{Disk: 0, At: api.Data, Data: full(3)}}})
			}
			want := b.Clone()
			is(t, "Empty", update.Empty(b, live, 7), api.OK)
			putByHand(want, live, record.Record{Seq: 7})
			same(t, "empty", b, want)
			if x != 0 {
				newest(t, b, live, record.Record{Seq: 7})
			}
		}
	}
}

// P15.1: Empty goes to each live disk of the bench, and to no other; one that has failed is passed over.
func TestEmptyWithDisksGone(t *testing.T) {
	g := at(5, 5, 1)
	for mask := range 1 << g.Disks {
		for turn := range 3 {
			b := painted(t, g.Disks)
			live := gone(b, g, mask, turn)
			want := b.Clone()
			is(t, "Empty", update.Empty(b, live, 9), api.OK)
			putByHand(want, live, record.Record{Seq: 9})
			same(t, "empty", b, want)
		}
	}
	for n := range 7 {
		b := painted(t, 5)
		want := b.Clone()
		is(t, "Empty", update.Empty(b, everyone(n), 9), api.OK)
		putByHand(want, everyone(n), record.Record{Seq: 9})
		same(t, "empty", b, want)
	}
}
