package update_test

import (
	"slices"
	"testing"

	"wattle/api"
	"wattle/bench"
	"wattle/log"
	"wattle/record"
	"wattle/stripe"
	"wattle/update"
)

// there fails the test unless the sector reads as x, all others of its row as they were, and the row's disks that are
// there agree.
func there(t *testing.T, b *bench.Bench, live []bool, g api.Geom, s spot, x []byte, mask int) {
	t.Helper()
	data := changed(g, s, x)
	got, e := stripe.Read(b, live, g, s.row)
	if e != api.OK || !alike(got, data) {
		t.Errorf("Read(%v, %v, %d): %x, %d; want %x", live, g, s.row, got, e, data)
	}
	agrees(t, b, g, s.row, data, mask)
}

// P15.1: of each geometry, each choice of as many disks gone as the level lets be, in each way: the record has the items of
// those that are there, in their order; behind Do the sector reads as x.
func TestGone(t *testing.T) {
	for _, g := range good() {
		whole, all := laid(t, g, g.Disks), order(g)
		for mask := range 1 << g.Disks {
			if digits(mask) > budget(g) {
				continue
			}
			for turn := range 3 {
				if turn > 0 && (g.Disks > 6 || g.Chunk == 4) {
					continue
				}
				n := (mask*13 + turn*5) % len(all)
				for ; n < len(all); n += 1 + len(all)/9 {
					s, x := all[n], mixed(n, api.Sector)
					b := whole.Clone()
					live := gone(b, g, mask, turn)
					r := planned(g, s, changed(g, s, x), mask, 4)
					plans(t, b, live, g, n, x, 4, r, api.OK)
					want := b.Clone()
					does(t, b, live, g, n, x, 4)
					doByHand(want, live, r)
					same(t, "done", b, want)
					newest(t, b, live, r)
					hasOne(t, b, live, g, n, x)
					there(t, b, live, g, s, x, mask)
				}
			}
		}
	}
}

// P15.1: each one of a row's disks gone, in each way, by its part in the row: without its own disk P and Q make up for it,
// without P, or Q, the others are written; of any other disk all items are.
func TestEachPartGone(t *testing.T) {
	for _, g := range good() {
		whole := laid(t, g, g.Disks)
		for n, s := range order(g) {
			if n%3 != 0 && g.Disks > 4 {
				continue
			}
			for d, part := range deal(g, s.row) {
				b, x := whole.Clone(), mixed(n, api.Sector)
				live := gone(b, g, 1<<d, n)
				r, e := update.Plan(b, live, g, n, x, 2)
				want := g.Level - 3
				if part < 0 || part == s.k {
					want--
				}
				lacks := !slices.ContainsFunc(r.Items, func(x record.Item) bool { return x.Disk == d })
				if e != api.OK || len(r.Items) != want || !lacks {
					t.Error(g, n, d, live, r, e)
				}
				does(t, b, live, g, n, x, 2)
				there(t, b, live, g, s, x, 1<<d)
			}
		}
	}
}

// P15.1: more disks gone than the level lets be, in each choice: ErrLost, and nothing is written; its own disk, P and Q
// may well be there.
func TestLost(t *testing.T) {
	for _, g := range some() {
		whole, all := laid(t, g, g.Disks), order(g)
		for mask := range 1 << g.Disks {
			if digits(mask) <= budget(g) {
				continue
			}
			for turn := range 3 {
				b := whole.Clone()
				live := gone(b, g, mask, turn)
				for i := range 4 {
					refuses(t, b, live, g, (mask+turn*7+i*9)%len(all), full(5), 3, api.ErrLost)
				}
				is(t, "Empty", update.Empty(b, live, 3), api.OK)
			}
		}
	}
}

// P15.1, R8: disks of the geometry that the bench has not are missing, whatever live says of them.
func TestShortBench(t *testing.T) {
	for _, g := range good() {
		for disks := 1; disks < g.Disks; disks++ {
			whole, mask := laid(t, g, disks), (1<<g.Disks-1)&^(1<<disks-1)
			for _, live := range [][]bool{everyone(disks), everyone(g.Disks), everyone(40)} {
				for n, s := range order(g) {
					if n%11 != disks {
						continue
					}
					b, x := whole.Clone(), mixed(n, api.Sector)
					if digits(mask) > budget(g) {
						refuses(t, b, live, g, n, x, 6, api.ErrLost)
						continue
					}
					r, want := planned(g, s, changed(g, s, x), mask, 6), whole.Clone()
					plans(t, b, live, g, n, x, 6, r, api.OK)
					does(t, b, live, g, n, x, 6)
					doByHand(want, live, r)
					same(t, "done", b, want)
					there(t, b, live, g, s, x, mask)
				}
			}
		}
	}
}

// P15.1: disks that are there but that the geometry does not have get the log, if they are live, and no item.
func TestMoreDisks(t *testing.T) {
	g := at(5, 3, 2)
	whole := laid(t, g, 6)
	for x := range 1 << 3 {
		live := append(everyone(3), choice(x, 3)...)
		for n, s := range order(g) {
			b, want, sector := whole.Clone(), whole.Clone(), mixed(n, api.Sector)
			b.Fail(4)
			want.Fail(4)
			does(t, b, live, g, n, sector, 5)
			doByHand(want, live, planned(g, s, changed(g, s, sector), 0, 5))
			same(t, "done", b, want)
		}
	}
}

// P15.1: a sector written with a disk gone reads as written with another one gone, once the first one's is written by
// hand.
func TestOtherDisksGone(t *testing.T) {
	for _, g := range some() {
		for n, s := range order(g) {
			x := mixed(n, api.Sector)
			l := sectorsOf(g, s.row, changed(g, s, x))
			first := n % g.Disks
			b := laid(t, g, g.Disks)
			live := everyone(g.Disks)
			live[first] = false
			does(t, b, live, g, n, x, 1)
			set(t, b, first, api.Data+s.row, l[first])
			for second := range g.Disks {
				live := everyone(g.Disks)
				live[second] = false
				hasOne(t, b, live, g, n, x)
			}
		}
	}
}

// P15.1: Plan reads the row as it stands: a spoilt P, or Q, is right behind Do; of a spoilt other sector, and of its own,
// the parity is reckoned of what stands there, or will.
func TestSpoilt(t *testing.T) {
	for _, g := range some() {
		for n, s := range order(g) {
			for d, part := range deal(g, s.row) {
				b, x := laid(t, g, g.Disks), mixed(n, api.Sector)
				data := changed(g, s, x)
				set(t, b, d, api.Data+s.row, full(0xEE))
				if part >= 0 && part != s.k {
					data[part] = full(0xEE)
				}
				plans(t, b, everyone(g.Disks), g, n, x, 1, planned(g, s, data, 0, 1), api.OK)
				does(t, b, everyone(g.Disks), g, n, x, 1)
				agrees(t, b, g, s.row, data, 0)
			}
		}
	}
}

// P15.1: what is pending counts as it stands; behind Do all of it is settled on the live disks, and still pending on the
// others.
func TestPendingBefore(t *testing.T) {
	for _, g := range some() {
		for n, s := range order(g) {
			b, x := laid(t, g, g.Disks), mixed(n, api.Sector)
			out := (s.disk + 1 + n%(g.Disks-1)) % g.Disks
			live := everyone(g.Disks)
			data := several(n, width(g))
			is(t, "Write", stripe.Write(b, live, g, s.row, data...), api.OK)
			for d := range g.Disks {
				is(t, "Write by hand", b.Write(d, api.SlotB, full(7)), api.OK)
			}
			live[out] = false
			want := b.Clone()
			data[s.k] = x
			r := planned(g, s, data, 1<<out, 12)
			plans(t, b, live, g, n, x, 12, r, api.OK)
			does(t, b, live, g, n, x, 12)
			doByHand(want, live, r)
			same(t, "done", b, want)
			if b.Pending() != 2 {
				t.Error(g, n, "pending", b.Pending())
			}
		}
	}
}

// P15.1: Do and Empty write each live disk's log anew, whatever stands there, also a record of a greater number; one on a
// disk that is not live stays.
func TestOverOlder(t *testing.T) {
	for _, g := range some() {
		b, live := laid(t, g, g.Disks), everyone(g.Disks)
		does(t, b, live, g, 1, full(1), 500)
		live[0] = false
		is(t, "Empty", update.Empty(b, live, 3), api.OK)
		newest(t, b, live, record.Record{Seq: 3})
		if r, ok := log.Get(b, everyone(g.Disks)); !ok || r.Seq != 500 {
			t.Error(g, r, ok)
		}
		set(t, b, 1, api.Log, full(9))
		live[0] = true
		does(t, b, live, g, 2, full(2), 4)
		if r, ok := log.Get(b, live); !ok || r.Seq != 4 || len(r.Items) != g.Level-3 {
			t.Error(g, r, ok)
		}
	}
}
