package rebuild_test

import (
	"testing"

	"wattle/api"
	"wattle/bench"
)

// P16.1, R2: the power goes at each write, of each disk, with none of the others gone, and with as many as the level lets
// be: what was written ahead of it stays as it is, and nothing else is written. A limit that is enough changes nothing.
func TestPowerGoes(t *testing.T) {
	for _, l := range append(few(), layout{a: at(6, 8, 4)}) {
		disks := l.disks()
		whole := laid(t, l, disks)
		for d := range disks {
			for other := range disks {
				mask := 1 << other &^ (1 << d) // d itself: none is gone beside it
				start := whole.Clone()
				live := gone(start, mask, other+d)
				lose(t, start, d, other)
				live[d] = false
				if !readable(start, l.of(0), mask|1<<d) || !readable(start, l.a, mask|1<<d) {
					continue
				}
				for limit := range api.Rows + 2 {
					b, want := start.Clone(), start.Clone()
					b.Limit(limit)
					want.Limit(limit)
					e := disk(b, live, d, l)
					is(t, "Disk", e, renewed(want, l, d, mask))
					if (e == api.OK) != (limit >= rowsOn(l, d)) || (e == api.ErrDown) != b.Down() {
						t.Error(l, d, limit, e)
					}
					same(t, "the power goes", b, want)
				}
			}
		}
	}
}

// P16.1, R2: the power goes ahead of a row that can't be read: which error comes is which of them is met first.
func TestPowerGoesAheadOfLost(t *testing.T) {
	l := layout{at(5, 6, 1), at(6, 6, 2), 9}
	for d := range 6 {
		mask := 1 << ((d + 2) % 6)
		start := laid(t, l, 6)
		live := gone(start, mask, d)
		lose(t, start, d, d)
		live[d] = false
		for limit := range 12 {
			b, want := start.Clone(), start.Clone()
			b.Limit(limit)
			want.Limit(limit)
			e := disk(b, live, d, l)
			is(t, "Disk", e, renewed(want, l, d, mask))
			if (e == api.ErrLost) != (limit >= 9) {
				t.Error(d, limit, e)
			}
			same(t, "the power goes", b, want)
		}
	}
}

// P16.1, R2: without power: ErrDown, of a row's reading, or, where the disk is in no row, of the flush; nothing changes.
func TestNoPower(t *testing.T) {
	for _, l := range append(few(), pairs()...) {
		disks := l.disks()
		for d := range api.MaxDisks {
			b := laid(t, l, api.MaxDisks)
			lose(t, b, d, d)
			cut(t, b)
			refuses(t, b, but(api.MaxDisks, d), d, l, api.ErrDown)
			if d >= disks {
				refuses(t, b, nil, d, l, api.ErrDown)
			} else {
				refuses(t, b, nil, d, l, api.ErrLost) // there is none to be read
			}
		}
	}
}

// cutOff is a laid bench whose disk d is lost and made anew, and whose power goes behind so many writes. False: it was
// done.
func cutOff(t *testing.T, l layout, d, turn, limit int) (*bench.Bench, bool) {
	t.Helper()
	b := laid(t, l, l.disks())
	lose(t, b, d, turn)
	is(t, "Flush", b.Flush(d), api.OK)
	b.Limit(limit)
	e := disk(b, but(b.Len(), d), d, l)
	if e != api.OK && e != api.ErrDown {
		t.Fatal(l, d, limit, e)
	}
	return b, e == api.ErrDown
}

// begunAnew fails the test unless, behind a crash, no other disk is another, and Disk, begun anew, makes of the disk what
// it was to be.
func begunAnew(t *testing.T, crashed *bench.Bench, l layout, d int) {
	t.Helper()
	b := crashed.Clone()
	for k := range b.Len() {
		if k != d {
			hasDisk(t, b, k, l)
		}
	}
	b = renews(t, b, but(b.Len(), d), d, l, 0)
	hasDisk(t, b, d, l)
	hasRows(t, b, everyone(b.Len()), l)
	if b.Pending() != 0 || t.Failed() {
		t.Fatal(l, d, "pending", b.Pending())
	}
}

// P16.1: small cases: the power goes at each write, with each choice of what survives the crash.
func TestEachCrash(t *testing.T) {
	for _, l := range []layout{{at(5, 3, 1), at(5, 4, 1), 5}, {at(5, 3, 2), at(6, 4, 1), 6}} {
		for limit := 0; ; limit++ {
			b, cut := cutOff(t, l, 3, limit, limit)
			for x := range 1 << b.Pending() {
				c := b.Clone()
				c.Crash(choice(x, b.Pending())...)
				begunAnew(t, c, l, 3)
			}
			if !cut {
				if limit != l.split {
					t.Error(l, limit)
				}
				break
			}
		}
	}
}

// P16.1: larger cases, with many choices of what survives: nothing, all, first ones, last ones, and mixed ones.
func TestManyCrashes(t *testing.T) {
	for _, l := range append(few(), layout{a: at(6, 8, 4)}) {
		for d := range l.disks() {
			for limit := d % 2; limit <= api.Rows; limit += 3 {
				b, _ := cutOff(t, l, d, limit, limit)
				for way := range 8 {
					c := b.Clone()
					c.Crash(survivors(way, limit*64+d, c.Pending())...)
					begunAnew(t, c, l, d)
				}
			}
		}
	}
}

// P16.1: the power goes at the flush: each write is made, and none of it settled; with each choice of what survives of a
// small case, and many of larger ones.
func TestCrashAtFlush(t *testing.T) {
	all := func(l layout, d int) *bench.Bench {
		b := laid(t, l, l.disks())
		lose(t, b, d, 0)
		for line := range api.Rows {
			g := l.of(line)
			if d < g.Disks {
				is(t, "Write by hand", b.Write(d, api.Data+line, sectorsOf(g, line, dataOf(g, line))[d]), api.OK)
			}
		}
		return b
	}
	small := layout{at(5, 3, 1), at(5, 4, 2), 7}
	for x := range 1 << 7 {
		b := all(small, 3)
		b.Crash(choice(x, 7)...)
		begunAnew(t, b, small, 3)
	}
	for _, l := range few() {
		for d := range l.disks() {
			for way := range 8 {
				b := all(l, d)
				b.Crash(survivors(way, d, b.Pending())...)
				begunAnew(t, b, l, d)
			}
		}
	}
}

// survivors is a choice of so many writes.
func survivors(way, seed, size int) []bool {
	switch way {
	case 0:
		return nil
	case 1:
		return everyone(size)
	case 2:
		return everyone(size / 2)
	case 3:
		return append(make([]bool, size/2), everyone(size-size/2)...)
	}
	l := make([]bool, size)
	for i, c := range mixed(seed*8+way, size) {
		l[i] = c < 64*byte(way-3)
	}
	return l
}

// P16.1: crash behind crash, each in the midst of what was begun anew behind the one ahead, and then one that is done.
func TestCrashAfterCrash(t *testing.T) {
	for _, l := range few() {
		for d := range l.disks() {
			for limit := 0; limit < api.Rows; limit += 2 {
				b, _ := cutOff(t, l, d, 1, limit)
				for i := range 5 {
					b.Crash(survivors(4+i%4, limit*16+i, b.Pending())...)
					b.Limit((limit + 5*i) % api.Rows)
					disk(b, but(b.Len(), d), d, l)
				}
				b.Crash(survivors(5, limit, b.Pending())...)
				begunAnew(t, b, l, d)
			}
		}
	}
}

// P16.1: of level 6 with another disk lost too, the power going at each write: begun anew it comes to the same, and then
// the other one is made anew as well.
func TestCrashWithTwoLost(t *testing.T) {
	for _, l := range []layout{{a: at(6, 4, 1)}, {at(6, 5, 1), at(6, 6, 4), 6}, {a: at(6, 8, 2)}} {
		disks := l.disks()
		whole := laid(t, l, disks)
		for d := range disks {
			other := (d + 1 + d%(disks-1)) % disks
			for limit := 0; limit < api.Rows; limit += 3 {
				b, live := whole.Clone(), but(disks, d, other)
				lose(t, b, d, limit)
				lose(t, b, other, 0)
				b.Limit(limit)
				if e := disk(b, live, d, l); (e == api.ErrDown) != (limit < rowsOn(l, d)) {
					t.Error(l, d, limit, e)
				}
				b.Crash(survivors(limit%8, limit, b.Pending())...)
				b = renews(t, b, live, d, l, 1<<other)
				live[d] = true
				b = renews(t, b, live, other, l, 0)
				hasDisk(t, b, d, l)
				hasDisk(t, b, other, l)
			}
		}
	}
}

// P16.1: behind Disk a crash changes nothing, whatever it keeps.
func TestCrashBehind(t *testing.T) {
	for _, l := range few() {
		for d := range l.disks() {
			b, cut := cutOff(t, l, d, 2, rowsOn(l, d))
			if cut {
				t.Error(l, d, "cut off")
			}
			b.Crash()
			hasRows(t, b, everyone(b.Len()), l)
			hasDisk(t, b, d, l)
		}
	}
}
