package stripe_test

import (
	"slices"
	"testing"

	"wattle/api"
	"wattle/bench"
	"wattle/place"
	"wattle/stripe"
)

// P14.1: the chapter's example: of each geometry, each row of a new bench, and each sector, is zeros.
func TestExample(t *testing.T) {
	for _, g := range good() {
		for _, disks := range []int{g.Disks, api.MaxDisks} {
			b, zeros := newBench(t, disks), slices.Repeat([][]byte{full(0)}, width(g))
			for row := range api.Rows {
				reads(t, b, everyone(disks), g, row, zeros, api.OK)
			}
			for n := range width(g) * api.Rows {
				hasOne(t, b, everyone(disks), g, n, full(0), api.OK)
			}
			same(t, "read", b, newBench(t, disks))
		}
	}
}

// P14.1: rows by hand, each sector of one byte; row r stands at sector 36 + r; P and Q reckoned by hand.
func TestByHand(t *testing.T) {
	for _, r := range []struct {
		g             api.Geom
		row, at       int
		data, sectors string
		first         int // the number of the first sector
	}{
		{at(5, 3, 1), 0, 36, "\x01\x02", "\x01\x02\x03", 0},
		{at(5, 3, 1), 1, 37, "\x01\x02", "\x02\x03\x01", 2},
		{at(5, 3, 1), 2, 38, "\x01\x02", "\x03\x01\x02", 4},
		{at(5, 3, 2), 1, 37, "\x01\x02", "\x01\x02\x03", 1},
		{at(5, 3, 4), 15, 51, "\xF0\x3C", "\xF0\x3C\xCC", 27},
		{at(5, 8, 1), 15, 51, "\x01\x02\x04\x08\x10\x20\x40", "\x7F\x01\x02\x04\x08\x10\x20\x40", 105},
		// Of two: Q is the first + the second times 2; 80 times 2 is 1D.
		{at(6, 4, 1), 0, 36, "\x01\x02", "\x05\x01\x02\x03", 0},
		{at(6, 4, 1), 1, 37, "\x01\x02", "\x01\x02\x03\x05", 2},
		{at(6, 4, 1), 4, 40, "\x01\x80", "\x1C\x01\x80\x81", 8},
		{at(6, 4, 4), 3, 39, "\x80\x01", "\x82\x80\x01\x81", 3},
		{at(6, 5, 2), 9, 45, "\x01\x02\x04", "\x07\x15\x01\x02\x04", 25},
		// Of 80: 80 + 1D + 3A + 74 + E8 + CD is F6.
		{at(6, 8, 2), 15, 51, "\x80\x80\x80\x80\x80\x80", "\x00\xF6\x80\x80\x80\x80\x80\x80", 85},
	} {
		var data [][]byte
		for _, c := range []byte(r.data) {
			data = append(data, full(c))
		}
		b, live := newBench(t, r.g.Disks), everyone(r.g.Disks)
		is(t, "Write", stripe.Write(b, live, r.g, r.row, data...), api.OK)
		for d, c := range []byte(r.sectors) {
			for at := range api.Size {
				if at == r.at {
					stands(t, b, d, at, full(c))
				} else {
					stands(t, b, d, at, full(0))
				}
			}
		}
		reads(t, b, live, r.g, r.row, data, api.OK)
		for k, x := range data {
			hasOne(t, b, live, r.g, r.first+k*r.g.Chunk, x, api.OK)
		}
		if b.Writes() != r.g.Disks || b.Pending() != r.g.Disks {
			t.Error(r.g, r.row, "writes", b.Writes(), "pending", b.Pending())
		}
	}
}

// byHand writes sectors of a row on those disks of the bench that keep has a digit for, from disk 0 on.
func byHand(t *testing.T, b *bench.Bench, row, keep int, sectors [][]byte) {
	t.Helper()
	for d, x := range sectors {
		if keep>>d&1 == 1 && d < b.Len() {
			is(t, "Write by hand", b.Write(d, api.Data+row, x), api.OK)
		}
	}
}

// P14.1: of each geometry, each row: what Write was given stands on the bench, each sector where it ought to, none of it
// flushed; Read gives it back; all else is as it was, also on the disks that the geometry does not have.
func TestEachRow(t *testing.T) {
	for _, g := range good() {
		for _, disks := range []int{g.Disks, api.MaxDisks} {
			blank := painted(t, disks)
			for row := range api.Rows {
				data := dataOf(g, row)
				b, want := blank.Clone(), blank.Clone()
				is(t, "Write", stripe.Write(b, everyone(disks), g, row, data...), api.OK)
				byHand(t, want, row, 1<<g.Disks-1, sectorsOf(g, row, data))
				same(t, "written", b, want)
				reads(t, b, everyone(disks), g, row, data, api.OK)
				same(t, "read", b, want)
			}
		}
	}
}

// P14.1: the disks are those that package place names.
func TestAsPlace(t *testing.T) {
	for _, g := range good() {
		b := newBench(t, g.Disks)
		for row := range api.Rows {
			data := dataOf(g, row)
			is(t, "Write", stripe.Write(b, everyone(g.Disks), g, row, data...), api.OK)
			for k, x := range data {
				stands(t, b, place.Disk(g, row, k), api.Data+row, x)
			}
			sumP, sumQ := sums(data)
			p, q := place.Parity(g, row)
			stands(t, b, p, api.Data+row, sumP)
			if q >= 0 {
				stands(t, b, q, api.Data+row, sumQ)
			}
		}
	}
}

// P14.1: all rows of a geometry written, and written again in another order: each has what was written there last.
func TestAllRows(t *testing.T) {
	for _, g := range good() {
		b, live := newBench(t, g.Disks), everyone(g.Disks)
		for row := range api.Rows {
			is(t, "Write", stripe.Write(b, live, g, row, several(row, width(g))...), api.OK)
		}
		var again [api.Rows]bool
		for i := range api.Rows {
			row := (i*7 + 3) % api.Rows
			is(t, "Write", stripe.Write(b, live, g, row, dataOf(g, row)...), api.OK)
			again[row] = true
			for other := range api.Rows {
				if again[other] {
					reads(t, b, live, g, other, dataOf(g, other), api.OK)
				} else {
					reads(t, b, live, g, other, several(other, width(g)), api.OK)
				}
			}
		}
		hasAll(t, b, live, g)
		is(t, "Flush", stripe.Flush(b, live), api.OK)
		b.Crash()
		hasAll(t, b, live, g)
	}
}

// P14.1: One of each sector of each geometry is what Read of its row says, and what was laid there.
func TestEachSector(t *testing.T) {
	for _, g := range good() {
		b := laid(t, g, g.Disks)
		was := b.Clone()
		for n, s := range order(g) {
			data, e := stripe.Read(b, everyone(g.Disks), g, s.row)
			if e != api.OK {
				t.Fatal(g, n, e)
			}
			hasOne(t, b, everyone(g.Disks), g, n, data[s.k], api.OK)
		}
		hasAll(t, b, everyone(g.Disks), g)
		same(t, "read", b, was)
	}
}

// P14.1: a row that was written but not flushed reads as it was written.
func TestPendingReads(t *testing.T) {
	for _, g := range some() {
		b, live := laid(t, g, g.Disks), everyone(g.Disks)
		data := several(99, width(g))
		is(t, "Write", stripe.Write(b, live, g, 5, data...), api.OK)
		reads(t, b, live, g, 5, data, api.OK)
		for n, s := range order(g) {
			want := dataOf(g, s.row)[s.k]
			if s.row == 5 {
				want = data[s.k]
			}
			hasOne(t, b, live, g, n, want, api.OK)
		}
		b.Crash()
		hasAll(t, b, live, g)
	}
}

// gone makes those of the geometry's disks go for which mask has a digit, by turns: not live, failed though live, failed
// and not live. It answers which disks are live.
func gone(b *bench.Bench, g api.Geom, mask, turn int) []bool {
	live := everyone(b.Len())
	for d := range g.Disks {
		if mask>>d&1 == 0 {
			continue
		}
		how := (turn + d) % 3
		if how != 0 {
			b.Fail(d)
		}
		live[d] = how == 1
	}
	return live
}

// P14.1: each choice of disks gone, each way: as many as the level lets be, and Read and One give the data; one more, and
// still more, and Read is ErrLost; One too, but of a sector whose own disk is there.
func TestGone(t *testing.T) {
	for _, g := range good() {
		whole := laid(t, g, g.Disks)
		for mask := range 1 << g.Disks {
			for turn := range 3 {
				if turn > 0 && (g.Disks > 6 || g.Chunk == 4) {
					continue
				}
				b := whole.Clone()
				live := gone(b, g, mask, turn+mask/3)
				want := api.OK
				if digits(mask) > budget(g) {
					want = api.ErrLost
				}
				for row := range api.Rows {
					reads(t, b, live, g, row, dataOf(g, row), want)
				}
				for n, s := range order(g) {
					e := want
					if mask>>s.disk&1 == 0 {
						e = api.OK
					}
					hasOne(t, b, live, g, n, dataOf(g, s.row)[s.k], e)
				}
			}
		}
	}
}

// P14.1: a disk that has failed is missing though it is live, and so is one that has not failed but is not live, whatever
// stands on it.
func TestNotLiveIsNotRead(t *testing.T) {
	for _, g := range good() {
		for d := range g.Disks {
			b := laid(t, g, g.Disks)
			for row := range api.Rows {
				set(t, b, d, api.Data+row, mixed(row, api.Sector))
			}
			live := everyone(g.Disks)
			live[d] = false
			hasAll(t, b, live, g)
			b.Fail(d)
			hasAll(t, b, everyone(g.Disks), g)
			is(t, "Replace", b.Replace(d), api.OK) // a new one is no better while it is not live
			hasAll(t, b, live, g)
		}
	}
}

// P14.1: of live with fewer entries than the bench has disks the rest is not live: Read, One and Write go by those alone,
// and Flush too.
func TestShortLive(t *testing.T) {
	for _, g := range good() {
		whole := laid(t, g, g.Disks)
		for n := range g.Disks + 1 {
			b, live := whole.Clone(), everyone(g.Disks)[:n:n]
			want := api.OK
			if g.Disks-n > budget(g) {
				want = api.ErrLost
			}
			for row := range api.Rows {
				reads(t, b, live, g, row, dataOf(g, row), want)
			}
			for i, s := range order(g) {
				e := want
				if s.disk < n {
					e = api.OK
				}
				hasOne(t, b, live, g, i, dataOf(g, s.row)[s.k], e)
			}
			by, data := b.Clone(), several(5, width(g))
			is(t, "Write", stripe.Write(b, live, g, 7, data...), api.OK)
			byHand(t, by, 7, 1<<n-1, sectorsOf(g, 7, data))
			same(t, "written", b, by)
			reads(t, b, live, g, 7, data, want)
		}
	}
}

// P14.1, R8: of live with more entries than the bench has disks the rest says nothing; so do the entries of disks that
// the geometry does not have.
func TestLongLive(t *testing.T) {
	for _, g := range some() {
		b := laid(t, g, g.Disks)
		hasAll(t, b, everyone(g.Disks+1), g)
		hasAll(t, b, everyone(100), g)
		want, data := b.Clone(), several(5, width(g))
		is(t, "Write", stripe.Write(b, everyone(100), g, 7, data...), api.OK)
		byHand(t, want, 7, 1<<g.Disks-1, sectorsOf(g, 7, data))
		same(t, "written", b, want)
		is(t, "Flush", stripe.Flush(b, everyone(100)), api.OK)
		for d := range g.Disks {
			want.Flush(d)
		}
		same(t, "flushed", b, want)

		more := laid(t, g, api.MaxDisks)
		hasAll(t, more, everyone(g.Disks), g)
		for d := g.Disks; d < api.MaxDisks; d++ {
			more.Fail(d)
		}
		hasAll(t, more, everyone(api.MaxDisks), g)
	}
}

// P14.1, R8: disks that the geometry has and the bench has not are missing, whatever live says of them.
func TestSmallBench(t *testing.T) {
	for _, g := range good() {
		for disks := 1; disks < g.Disks; disks++ {
			b := laid(t, g, disks)
			want := api.OK
			if g.Disks-disks > budget(g) {
				want = api.ErrLost
			}
			for _, live := range [][]bool{everyone(disks), everyone(g.Disks), everyone(50)} {
				for row := range api.Rows {
					reads(t, b, live, g, row, dataOf(g, row), want)
				}
				for n, s := range order(g) {
					e := want
					if s.disk < disks {
						e = api.OK
					}
					hasOne(t, b, live, g, n, dataOf(g, s.row)[s.k], e)
				}
				c, by, data := b.Clone(), b.Clone(), several(6, width(g))
				is(t, "Write", stripe.Write(c, live, g, 15, data...), api.OK)
				byHand(t, by, 15, 1<<disks-1, sectorsOf(g, 15, data))
				same(t, "written", c, by)
			}
		}
	}
}

// P14.1: One reads of a disk that is there that disk's sector alone: all else on the bench spoilt, or failed, changes
// nothing; and what stands there is the answer, though the others say otherwise.
func TestOwnDiskAlone(t *testing.T) {
	for _, g := range some() {
		for n, s := range order(g) {
			b, want := painted(t, g.Disks), full(byte(n+1))
			set(t, b, s.disk, api.Data+s.row, want)
			hasOne(t, b, everyone(g.Disks), g, n, want, api.OK)
			alone := make([]bool, g.Disks)
			alone[s.disk] = true
			hasOne(t, b, alone, g, n, want, api.OK)
			for d := range g.Disks {
				if d != s.disk {
					b.Fail(d)
				}
			}
			hasOne(t, b, everyone(g.Disks), g, n, want, api.OK)
		}
	}
}

// P14.1: Read takes the sectors that are there as they are: a spoilt one is told as it stands, and parity that is spoilt
// touches nothing while no data is missing.
func TestSpoilt(t *testing.T) {
	for _, g := range some() {
		for row := range api.Rows {
			for d, k := range deal(g, row) {
				b, data := laid(t, g, g.Disks), copied(dataOf(g, row))
				set(t, b, d, api.Data+row, full(0xEE))
				if k >= 0 {
					data[k] = full(0xEE)
				}
				reads(t, b, everyone(g.Disks), g, row, data, api.OK)
			}
		}
	}
}

// P14.1: of level 6 one sector alone is found again by P, whatever Q says; by Q, if P is missing too.
func TestByWhichParity(t *testing.T) {
	for _, g := range good() {
		if g.Level != 6 {
			continue
		}
		for row := range api.Rows {
			what := deal(g, row)
			for d, k := range what {
				if k < 0 {
					continue
				}
				b := laid(t, g, g.Disks)
				live := everyone(g.Disks)
				live[d] = false
				for q, part := range what {
					if part == onQ {
						set(t, b, q, api.Data+row, full(0xEE))
					}
				}
				reads(t, b, live, g, row, dataOf(g, row), api.OK)
				b = laid(t, g, g.Disks)
				for p, part := range what {
					if part == onP {
						set(t, b, p, api.Data+row, full(0xEE))
						live[p] = false
					}
				}
				reads(t, b, live, g, row, dataOf(g, row), api.OK)
			}
		}
	}
}

// P14.1: Write with disks gone, in each choice and each way, writes the others, and nothing else; Read gives the row
// back if no more are gone than the level lets be, and One gives each sector whose disk is there.
func TestWriteWithDisksGone(t *testing.T) {
	for _, g := range some() {
		for mask := range 1 << g.Disks {
			for turn := range 3 {
				row := (mask*5 + turn) % api.Rows
				b := laid(t, g, g.Disks)
				live, data := gone(b, g, mask, turn), several(mask, width(g))
				want := b.Clone()
				is(t, "Write", stripe.Write(b, live, g, row, data...), api.OK)
				byHand(t, want, row, (1<<g.Disks-1)&^mask, sectorsOf(g, row, data))
				same(t, "written", b, want)
				e := api.OK
				if digits(mask) > budget(g) {
					e = api.ErrLost
				}
				reads(t, b, live, g, row, data, e)
				for n, s := range order(g) {
					if s.row == row && (e == api.OK || mask>>s.disk&1 == 0) {
						hasOne(t, b, live, g, n, data[s.k], api.OK)
					}
				}
			}
		}
	}
}

// P14.1: rows written with disks gone are there with other disks gone, once those are written again by hand.
func TestOtherDisksGone(t *testing.T) {
	for _, g := range some() {
		for first := range g.Disks {
			b, live := laid(t, g, g.Disks), everyone(g.Disks)
			live[first] = false
			data := several(first, width(g))
			is(t, "Write", stripe.Write(b, live, g, 3, data...), api.OK)
			set(t, b, first, api.Data+3, sectorsOf(g, 3, data)[first])
			for second := range g.Disks {
				live := everyone(g.Disks)
				live[second] = false
				reads(t, b, live, g, 3, data, api.OK)
			}
		}
	}
}
