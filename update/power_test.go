package update_test

import (
	"bytes"
	"testing"

	"wattle/api"
	"wattle/bench"
	"wattle/log"
	"wattle/record"
	"wattle/stripe"
	"wattle/update"
)

// P15.1, R2: the power goes at each write of Do, with each choice of disks gone that the level lets be: what was written
// ahead of it stays as it is, and nothing else is written. A limit that is enough changes nothing.
func TestPowerGoes(t *testing.T) {
	for _, g := range some() {
		whole, all := laid(t, g, g.Disks), order(g)
		for mask := range 1 << g.Disks {
			if digits(mask) > budget(g) {
				continue
			}
			n := (mask*7 + 4) % len(all)
			s, x := all[n], mixed(n, api.Sector)
			start := whole.Clone()
			live := gone(start, g, mask, mask)
			r := planned(g, s, changed(g, s, x), mask, 2)
			all := 4*(g.Disks-digits(mask)) + len(r.Items)
			for limit := range all + 2 {
				b, want := start.Clone(), start.Clone()
				b.Limit(limit)
				want.Limit(limit)
				e := update.Do(b, live, g, n, x, 2)
				if doByHand(want, live, r) != (limit >= all) {
					t.Fatal(g, mask, limit)
				}
				if limit < all {
					is(t, "Do", e, api.ErrDown)
				} else {
					is(t, "Do", e, api.OK)
				}
				same(t, "the power goes", b, want)
			}
		}
	}
}

// P15.1, R2: the same of Empty.
func TestPowerGoesInEmpty(t *testing.T) {
	for _, g := range some() {
		for mask := range 1 << g.Disks {
			start := laid(t, g, g.Disks)
			live, all := gone(start, g, mask, mask), 4*(g.Disks-digits(mask))
			for limit := range all + 2 {
				b, want := start.Clone(), start.Clone()
				b.Limit(limit)
				want.Limit(limit)
				e := update.Empty(b, live, 2)
				if putByHand(want, live, record.Record{Seq: 2}) != (limit >= all) {
					t.Fatal(g, mask, limit)
				}
				if limit < all {
					is(t, "Empty", e, api.ErrDown)
				} else {
					is(t, "Empty", e, api.OK)
				}
				same(t, "the power goes", b, want)
			}
		}
	}
}

// attempt is a Do that is cut off: of sector n, which is at s, to x, of a laid bench of which it was made old first, by
// the Do ahead of it.
type attempt struct {
	g      api.Geom
	n      int
	s      spot
	old, x []byte
	start  *bench.Bench // behind the Do ahead
}

func newAttempt(t *testing.T, g api.Geom, n int) attempt {
	t.Helper()
	a := attempt{g: g, n: n, s: order(g)[n], old: mixed(n+1, api.Sector), x: mixed(n+2, api.Sector), start: laid(t, g, g.Disks)}
	does(t, a.start, everyone(g.Disks), g, n, a.old, 1)
	return a
}

// mended fails the test unless, with the newest record put again and applied, the sector is as it was or as it was to be,
// all others as they were, and each row agrees; with one disk lost as well, before the mending and behind it. It answers
// whether the sector is as it was to be.
func (a attempt) mended(t *testing.T, name string, crashed *bench.Bench) bool {
	t.Helper()
	g := a.g
	made := false
	for lost := -1; lost < g.Disks; lost++ {
		b, live, mask := crashed.Clone(), everyone(g.Disks), 0
		if lost >= 0 {
			mask = 1 << lost
			live = gone(b, g, mask, a.n)
		}
		if r, ok := log.Get(b, live); ok {
			is(t, name, log.Put(b, live, r), api.OK)
			is(t, name, log.Apply(b, live, r), api.OK)
		}
		x, e := stripe.One(b, live, g, a.n)
		is(t, name, e, api.OK)
		now := bytes.Equal(x, a.x)
		if !now && !bytes.Equal(x, a.old) {
			t.Fatalf("%s, %d lost: sector %d is %x; want %x or %x", name, lost, a.n, x, a.old, a.x)
		}
		made = made || now
		for row := range api.Rows {
			data := copied(dataOf(g, row))
			if row == a.s.row {
				data = changed(g, a.s, x)
			}
			agrees(t, b, g, row, data, mask)
		}
		if b.Pending() != 0 || t.Failed() {
			t.Fatalf("%s, %d lost: pending %d", name, lost, b.Pending())
		}
		if lost < 0 {
			a.lostBehind(t, name, b, x)
		}
	}
	return made
}

// lostBehind fails the test unless the sector reads as x with any one disk lost.
func (a attempt) lostBehind(t *testing.T, name string, b *bench.Bench, x []byte) {
	t.Helper()
	for d := range a.g.Disks {
		live := everyone(a.g.Disks)
		live[d] = false
		got, e := stripe.One(b, live, a.g, a.n)
		if e != api.OK || !bytes.Equal(got, x) {
			t.Fatalf("%s: %x, %d with disk %d lost; want %x", name, got, e, d, x)
		}
	}
}

// cutOff is the bench on which the Do is cut off behind so many writes; false: it was done.
func (a attempt) cutOff(t *testing.T, limit int) (*bench.Bench, bool) {
	t.Helper()
	b := a.start.Clone()
	b.Limit(limit)
	e := update.Do(b, everyone(a.g.Disks), a.g, a.n, a.x, 2)
	if e != api.OK && e != api.ErrDown {
		t.Fatal(a.g, a.n, limit, e)
	}
	return b, e == api.ErrDown
}

// T2, P15.1: a small case: the power goes at each write of Do, with each choice of what survives the crash.
func TestEachCrash(t *testing.T) {
	a := newAttempt(t, at(5, 3, 1), 7)
	was, is := 0, 0
	for limit := 0; ; limit++ {
		b, cut := a.cutOff(t, limit)
		for x := range 1 << b.Pending() {
			c := b.Clone()
			c.Crash(choice(x, b.Pending())...)
			if a.mended(t, "crash", c) {
				is++
			} else {
				was++
			}
		}
		if !cut {
			break
		}
	}
	if was == 0 || is == 0 {
		t.Error("the sector is always", was, is)
	}
}

// T2, P15.1: larger cases, with many choices of what survives: nothing, all, first ones, last ones, and mixed ones. Behind
// the log the sector is always as it was to be.
func TestManyCrashes(t *testing.T) {
	for _, g := range some() {
		for n := 1; n < len(order(g)); n += 17 {
			a := newAttempt(t, g, n)
			for limit := 0; ; limit++ {
				b, cut := a.cutOff(t, limit)
				for i := range 8 {
					c := b.Clone()
					c.Crash(survivors(i, limit*64+n, b.Pending())...)
					made := a.mended(t, "crash", c)
					if limit >= 4*g.Disks && !made {
						t.Error(g, n, limit, "the log is there, and the sector is as it was")
					}
				}
				if !cut {
					break
				}
			}
		}
	}
}

// survivors is a choice of so many writes.
func survivors(way, seed, size int) []bool {
	switch way {
	case 0:
		return nil
	case 1:
		return everyone(size)
	case 2:
		return everyone(size / 2)
	case 3:
		return append(make([]bool, size/2), everyone(size-size/2)...)
	}
	l := make([]bool, size)
	for i, c := range mixed(seed*8+way, size) {
		l[i] = c < 64*byte(way-3)
	}
	return l
}

// T2, P15.1: a crash in the midst of the mending of a crash, and again, and then a mending that is done.
func TestCrashesInMending(t *testing.T) {
	for _, g := range some() {
		a := newAttempt(t, g, 5)
		live := everyone(g.Disks)
		for limit := 0; limit < 4*g.Disks+3; limit += 2 {
			b, _ := a.cutOff(t, limit)
			for again := range 4*g.Disks + 4 {
				c := b.Clone()
				for i := range 3 {
					c.Crash(survivors(4+i, limit*64+again, c.Pending())...)
					c.Limit(again)
					if r, ok := log.Get(c, live); ok && log.Put(c, live, r) == api.OK {
						log.Apply(c, live, r)
					}
				}
				c.Crash(survivors(6, again, c.Pending())...)
				a.mended(t, "crash", c)
			}
		}
	}
}

// T2, P15.1: with disks gone already, as many as the level lets be, a Do cut off at each write, with many choices of what
// survives: mended, the sector is as it was or as it was to be, and all others of its row are as they were.
func TestCrashesWithDisksGone(t *testing.T) {
	for _, g := range some() {
		all := order(g)
		for mask := range 1 << g.Disks {
			if digits(mask) != budget(g) {
				continue
			}
			n := mask % len(all)
			s, x, start := all[n], mixed(n, api.Sector), laid(t, g, g.Disks)
			live := gone(start, g, mask, mask)
			for limit := range 4*g.Disks + 3 {
				b := start.Clone()
				b.Limit(limit)
				update.Do(b, live, g, n, x, 2)
				for i := range 6 {
					c := b.Clone()
					c.Crash(survivors(i, limit*64+n, c.Pending())...)
					if r, ok := log.Get(c, live); ok {
						is(t, "Put", log.Put(c, live, r), api.OK)
						is(t, "Apply", log.Apply(c, live, r), api.OK)
					}
					now, e := stripe.One(c, live, g, n)
					is(t, "One", e, api.OK)
					if !bytes.Equal(now, x) {
						now = dataOf(g, s.row)[s.k]
					}
					there(t, c, live, g, s, now, mask)
				}
			}
		}
	}
}

// P15.1: Empty cut off at each write, with many choices of what survives: the newest record is the empty one, or the one
// ahead of it, or none; applying it changes no sector.
func TestCrashInEmpty(t *testing.T) {
	for _, g := range some() {
		a := newAttempt(t, g, 9)
		live := everyone(g.Disks)
		ahead := planned(g, a.s, changed(g, a.s, a.old), 0, 1)
		for limit := range 4*g.Disks + 1 {
			b := a.start.Clone()
			b.Limit(limit)
			update.Empty(b, live, 2)
			for i := range 8 {
				c := b.Clone()
				c.Crash(survivors(i, limit, c.Pending())...)
				r, ok := log.Get(c, live)
				if ok && !sameRecord(r, ahead) && !sameRecord(r, record.Record{Seq: 2}) || limit == 4*g.Disks && r.Seq != 2 {
					t.Error(g, limit, i, r, ok)
				}
				if ok {
					is(t, "Put", log.Put(c, live, r), api.OK)
					is(t, "Apply", log.Apply(c, live, r), api.OK)
				}
				for row := range api.Rows {
					data := dataOf(g, row)
					if row == a.s.row {
						data = changed(g, a.s, a.old)
					}
					agrees(t, c, g, row, data, 0)
				}
			}
		}
	}
}

// P15.1: behind Empty a row that was written anew stays as it is when the newest record is applied.
func TestEmptyForgets(t *testing.T) {
	for _, g := range some() {
		b, live := laid(t, g, g.Disks), everyone(g.Disks)
		does(t, b, live, g, 0, full(1), 8)
		is(t, "Empty", update.Empty(b, live, 9), api.OK)
		is(t, "Write", stripe.Write(b, live, g, 0, several(3, width(g))...), api.OK)
		is(t, "Flush", stripe.Flush(b, live), api.OK)
		want := b.Clone()
		r, _ := log.Get(b, live)
		is(t, "Apply", log.Apply(b, live, r), api.OK)
		same(t, "applied", b, want)
	}
}

// P15.1, R2: without power Plan and Do are ErrDown, and Empty is; wrong arguments come first, and leave the bench as it was.
func TestNoPower(t *testing.T) {
	for _, g := range good() {
		b := laid(t, g, g.Disks)
		cut(t, b)
		was, size := b.Clone(), len(order(g))
		for mask := range 1<<g.Disks - 1 { // one at least is there
			live := choice((1<<g.Disks-1)&^mask, g.Disks)
			_, e := update.Plan(b, live, g, 2, full(1), 1)
			is(t, "Plan", e, api.ErrDown)
			is(t, "Do", update.Do(b, live, g, 2, full(1), 1), api.ErrDown)
			is(t, "Empty", update.Empty(b, live, 1), api.ErrDown)
		}
		live := everyone(g.Disks)
		refuses(t, b, live, g, 2, full(1)[1:], 1, api.ErrArg)
		refuses(t, b, live, g, size, full(1), 1, api.ErrRange)
		refuses(t, b, live, g, -1, full(1), 1, api.ErrRange)
		refuses(t, b, live, api.Geom{}, 0, full(1), 1, api.ErrRange)
		refuses(t, b, live, g, 2, full(1), 0, api.ErrDown) // the row is read ahead of the log
		is(t, "Empty", update.Empty(b, live, 0), api.ErrArg)
		is(t, "Empty", update.Empty(b, live, greatest+1), api.ErrArg)
		for _, live := range [][]bool{nil, make([]bool, g.Disks)} {
			refuses(t, b, live, g, 2, full(1), 1, api.ErrLost)
			is(t, "Empty", update.Empty(b, live, 1), api.OK)
		}
		same(t, "no power", b, was)
	}
}

// P15.1: a power that comes back with a crash: all calls do their work again.
func TestPowerComesBack(t *testing.T) {
	for _, g := range some() {
		a := newAttempt(t, g, 3)
		b, _ := a.cutOff(t, 4*g.Disks+1)
		b.Crash()
		does(t, b, everyone(g.Disks), g, 3, a.x, 3)
		there(t, b, everyone(g.Disks), g, a.s, a.x, 0)
		is(t, "Empty", update.Empty(b, everyone(g.Disks), 4), api.OK)
		newest(t, b, everyone(g.Disks), record.Record{Seq: 4})
	}
}
