package stripe_test

import (
	"testing"

	"wattle/api"
	"wattle/bench"
	"wattle/stripe"
)

// busy is a laid bench with a few writes pending on each disk, at rows and at other sectors.
func busy(t *testing.T, g api.Geom, disks int) *bench.Bench {
	t.Helper()
	b := laid(t, g, disks)
	for d := range disks {
		for i, at := range []int{api.SlotA, api.Log, api.Data, api.Size - 1, api.Data}[:2+d%4] {
			is(t, "Write by hand", b.Write(d, at, full(byte(d*16+i))), api.OK)
		}
	}
	return b
}

// P14.1: behind Flush all that was pending on the live disks, at whichever sector, is settled; what is pending on the
// others still is. Disks that have failed are passed over, whichever they are.
func TestFlush(t *testing.T) {
	for _, disks := range []int{1, 2, 3, 4, 8} {
		whole := busy(t, at(5, 3, 1), disks)
		for x := range 1 << disks {
			for _, failed := range []int{0, x, 1, 1 << (disks - 1), x * 5 & (1<<disks - 1)} {
				b := whole.Clone()
				for d := range disks {
					if failed>>d&1 == 1 {
						b.Fail(d)
					}
				}
				want := b.Clone()
				is(t, "Flush", stripe.Flush(b, choice(x, disks)), api.OK)
				for d := range disks {
					if x>>d&1 == 1 {
						want.Flush(d)
					}
				}
				if disks < 8 || x%16 == 5 {
					same(t, "flushed", b, want)
				} else if b.Pending() != want.Pending() {
					t.Error(disks, x, failed, b.Pending(), want.Pending())
				}
			}
		}
	}
}

// P14.1: live with fewer entries than there are disks: the rest is not flushed; with none, nothing is.
func TestFlushShortLive(t *testing.T) {
	for disks := 1; disks <= api.MaxDisks; disks++ {
		for n := range disks + 1 {
			b := busy(t, at(5, 3, 1), disks)
			want := b.Clone()
			is(t, "Flush", stripe.Flush(b, everyone(n)), api.OK)
			for d := range n {
				want.Flush(d)
			}
			same(t, "flushed", b, want)
		}
		b := busy(t, at(5, 3, 1), disks)
		want := b.Clone()
		for _, live := range [][]bool{nil, {}, make([]bool, 1), make([]bool, disks), make([]bool, 20)} {
			is(t, "Flush", stripe.Flush(b, live), api.OK)
			same(t, "none is flushed", b, want)
		}
	}
}

// P14.1: a crash behind Write, with each choice of what survives: each disk has the row's new sector, or its old one;
// with a Flush between all of it is there; with a Flush of some disks, that of these.
func TestCrash(t *testing.T) {
	for _, g := range some() {
		old, data := sectorsOf(g, 9, dataOf(g, 9)), several(7, width(g))
		newer := sectorsOf(g, 9, data)
		written := laid(t, g, g.Disks)
		is(t, "Write", stripe.Write(written, everyone(g.Disks), g, 9, data...), api.OK)
		for x := range 1 << g.Disks {
			kept, flushed := written.Clone(), written.Clone()
			kept.Crash(choice(x, g.Disks)...)
			is(t, "Flush", stripe.Flush(flushed, choice(x, g.Disks)), api.OK)
			flushed.Crash()
			for d := range g.Disks {
				want := old[d]
				if x>>d&1 == 1 {
					want = newer[d]
				}
				stands(t, kept, d, api.Data+9, want)
				stands(t, flushed, d, api.Data+9, want)
			}
		}
		b := written.Clone()
		is(t, "Flush", stripe.Flush(b, everyone(g.Disks)), api.OK)
		b.Crash()
		reads(t, b, everyone(g.Disks), g, 9, data, api.OK)
		b = written.Clone()
		b.Crash()
		hasAll(t, b, everyone(g.Disks), g)
	}
}

// P14.1, R2: the power goes at each write of a Write, with each choice of disks gone: the disks ahead, from 0 on, are
// written, and that stays as it is; the others are not. A limit that is enough changes nothing.
func TestPowerGoes(t *testing.T) {
	for _, g := range some() {
		data := several(8, width(g))
		for mask := range 1 << g.Disks {
			whole := laid(t, g, g.Disks)
			live := gone(whole, g, mask, mask)
			left := (1<<g.Disks - 1) &^ mask
			for n := range digits(left) + 2 {
				b, want := whole.Clone(), whole.Clone()
				b.Limit(n)
				e := stripe.Write(b, live, g, 6, data...)
				done := 0
				for d := range g.Disks {
					if left>>d&1 == 1 && digits(done) < n {
						done |= 1 << d
					}
				}
				byHand(t, want, 6, done, sectorsOf(g, 6, data))
				if n < digits(left) {
					is(t, "Write", e, api.ErrDown)
					cut(t, want)
				} else {
					is(t, "Write", e, api.OK)
				}
				same(t, "the power goes", b, want)
			}
		}
	}
}

// P14.1, R2: without power each call is ErrDown, and leaves the bench as it was; wrong arguments come first. Nothing is
// asked of disks that are not live, or have failed, but Flush is of the latter.
func TestNoPower(t *testing.T) {
	for _, g := range good() {
		data := dataOf(g, 2)
		b := laid(t, g, g.Disks)
		cut(t, b)
		was := b.Clone()
		for mask := range 1<<g.Disks - 1 { // one at least is there
			live := choice((1<<g.Disks-1)&^mask, g.Disks)
			reads(t, b, live, g, 2, nil, api.ErrDown)
			hasOne(t, b, live, g, 2, nil, api.ErrDown)
			is(t, "Write", stripe.Write(b, live, g, 2, data...), api.ErrDown)
			is(t, "Flush", stripe.Flush(b, live), api.ErrDown)
		}
		reads(t, b, everyone(g.Disks), g, 16, nil, api.ErrArg)
		reads(t, b, everyone(g.Disks), g, -1, nil, api.ErrArg)
		reads(t, b, everyone(g.Disks), api.Geom{}, 0, nil, api.ErrArg)
		hasOne(t, b, everyone(g.Disks), g, -1, nil, api.ErrRange)
		hasOne(t, b, everyone(g.Disks), g, width(g)*api.Rows, nil, api.ErrRange)
		hasOne(t, b, everyone(g.Disks), api.Geom{}, 0, nil, api.ErrRange)
		is(t, "Write", stripe.Write(b, everyone(g.Disks), g, 16, data...), api.ErrArg)
		is(t, "Write", stripe.Write(b, everyone(g.Disks), g, 2, data[1:]...), api.ErrArg)
		is(t, "Write", stripe.Write(b, everyone(g.Disks), api.Geom{}, 2, data...), api.ErrArg)
		for _, live := range [][]bool{nil, {}, make([]bool, g.Disks)} {
			reads(t, b, live, g, 2, nil, api.ErrLost)
			hasOne(t, b, live, g, 2, nil, api.ErrLost)
			is(t, "Write", stripe.Write(b, live, g, 2, data...), api.OK)
			is(t, "Flush", stripe.Flush(b, live), api.OK)
		}
		same(t, "no power", b, was)
		for d := range g.Disks {
			b.Fail(d)
		}
		reads(t, b, everyone(g.Disks), g, 2, nil, api.ErrLost)
		hasOne(t, b, everyone(g.Disks), g, 2, nil, api.ErrLost)
		is(t, "Write", stripe.Write(b, everyone(g.Disks), g, 2, data...), api.OK)
		is(t, "Flush", stripe.Flush(b, everyone(g.Disks)), api.ErrDown)
	}
}

// P14.1: a power that comes back with a crash: all calls do their work again.
func TestPowerComesBack(t *testing.T) {
	for _, g := range some() {
		b, live := laid(t, g, g.Disks), everyone(g.Disks)
		b.Limit(1)
		is(t, "Write", stripe.Write(b, live, g, 0, several(1, width(g))...), api.ErrDown)
		b.Crash()
		hasAll(t, b, live, g)
		is(t, "Write", stripe.Write(b, live, g, 0, several(1, width(g))...), api.OK)
		is(t, "Flush", stripe.Flush(b, live), api.OK)
		b.Crash()
		reads(t, b, live, g, 0, several(1, width(g)), api.OK)
	}
}
