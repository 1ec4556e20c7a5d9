package rebuild_test

import (
	"testing"

	"wattle/api"
)

// P16.1: of each geometry, each choice of as many others gone as the level lets be, in each way: the disk is as the lost
// one was.
func TestOthersGone(t *testing.T) {
	for _, g := range good() {
		l := layout{a: g}
		whole := laid(t, l, g.Disks)
		for d := range g.Disks {
			for mask := range 1 << g.Disks {
				if mask>>d&1 == 1 || digits(mask) >= budget(g) {
					continue
				}
				for turn := range 3 {
					start := whole.Clone()
					live := gone(start, mask, turn)
					lose(t, start, d, mask+turn)
					live[d] = false
					hasDisk(t, renews(t, start, live, d, l, mask), d, l)
				}
			}
		}
	}
}

// P16.1: of each geometry, one more gone than the level lets be, and still more, up to all: ErrLost, and nothing is
// written.
func TestTooManyGone(t *testing.T) {
	for _, g := range some() {
		for _, l := range []layout{{a: g}, {g, g, 7}, {at(5, 3, 1), g, api.Rows}} {
			whole := laid(t, l, max(g.Disks, 3))
			for d := range g.Disks {
				for mask := range 1 << g.Disks {
					if mask>>d&1 == 1 || digits(mask) < budget(g) {
						continue
					}
					start := whole.Clone()
					live := gone(start, mask, mask)
					lose(t, start, d, mask+d)
					live[d] = false
					refuses(t, start, live, d, l, api.ErrLost)
				}
			}
		}
	}
}

// P16.1: of two geometries each choice of disks gone: the rows are written from 0 on, up to the first that can't be read,
// and stay, not flushed. Each of these cases occurs.
func TestWhatIsWrittenByThen(t *testing.T) {
	none, part, all := 0, 0, 0
	for i, l := range pairs() {
		disks := l.disks()
		whole := laid(t, l, disks)
		for d := range disks {
			for mask := range 1 << disks {
				if mask>>d&1 == 1 || digits(mask) > 3 || disks > 6 && (mask+i)%5 != 0 {
					continue
				}
				start := whole.Clone()
				live := gone(start, mask, mask+i)
				lose(t, start, d, 0)
				live[d] = false
				b := renews(t, start, live, d, l, mask)
				low, high := readable(b, l.of(0), mask|1<<d), readable(b, l.a, mask|1<<d)
				inLow, inHigh := d < l.of(0).Disks, d < l.a.Disks
				switch n := b.Writes() - start.Writes(); {
				case inLow && !low:
					none++
					if n != 0 {
						t.Error(l, d, mask, n, "written")
					}
				case inLow && inHigh && !high:
					part++
					if n != l.split || b.Pending() != l.split {
						t.Error(l, d, mask, n, b.Pending())
					}
				case (low || !inLow) && (high || !inHigh):
					all++
					hasDisk(t, b, d, l)
				}
			}
		}
	}
	if none == 0 || part == 0 || all == 0 {
		t.Error("not all cases", none, part, all)
	}
}

// P16.1: of a disk that is in no row none is read, so that it is nothing to it how many others are gone; it is flushed.
func TestInNoRow(t *testing.T) {
	for _, l := range []layout{{a: at(5, 3, 2)}, {a: at(6, 5, 1)}, {at(5, 4, 1), at(6, 5, 4), 4}, {at(6, 8, 1), at(5, 3, 1), api.Rows}} {
		whole := laid(t, l, 7)
		for mask := range 1 << 7 {
			for d := l.disks(); d < 7; d++ {
				start := whole.Clone()
				live := gone(start, mask&^(1<<d), mask)
				lose(t, start, d, mask)
				live[d] = false
				b, was := start.Clone(), start.Clone()
				is(t, "Disk", disk(b, live, d, l), api.OK)
				is(t, "Flush", was.Flush(d), api.OK)
				same(t, "in no row", b, was)
			}
		}
	}
}

// P16.1: behind an ErrLost in the midst, and the disk that was wanting live again: begun anew, all is as it was.
func TestBegunAnewBehindLost(t *testing.T) {
	l := layout{at(5, 6, 1), at(6, 6, 2), 9}
	for d := range 6 {
		for other := range 6 {
			if other == d {
				continue
			}
			b, live := laid(t, l, 6), but(6, d, other)
			lose(t, b, d, 1)
			is(t, "Disk", disk(b, live, d, l), api.ErrLost)
			live[other] = true
			b = renews(t, b, live, d, l, 0)
			hasRows(t, b, everyone(6), l)
		}
	}
}

// P16.1: of level 6 two disks lost, and made anew one after the other, in each order, the second one replaced ahead of the
// first one's turn or behind it: all is as it was.
func TestTwoAnew(t *testing.T) {
	layouts := []layout{{at(6, 5, 1), at(6, 5, 2), 6}, {at(6, 4, 4), at(6, 7, 4), 8}, {at(6, 6, 2), at(6, 4, 1), 5}}
	for _, g := range good() {
		if g.Level == 6 {
			layouts = append(layouts, layout{a: g})
		}
	}
	for _, l := range layouts {
		disks := l.disks()
		whole := laid(t, l, disks)
		for first := range disks {
			for second := range disks {
				if first == second {
					continue
				}
				b, live := whole.Clone(), but(disks, first, second)
				lose(t, b, first, first)
				is(t, "Fail", b.Fail(second), api.OK)
				if second%2 == 0 {
					lose(t, b, second, second)
				}
				b = renews(t, b, live, first, l, 1<<second)
				live[first] = true
				if second%2 == 1 {
					lose(t, b, second, second)
				}
				b = renews(t, b, live, second, l, 0)
				hasDisk(t, b, first, l)
				hasDisk(t, b, second, l)
				hasRows(t, b, everyone(disks), l)
			}
		}
	}
}

// P16.1: one of two that are out can't be made anew of the other, whether or not that one is a new disk.
func TestTheOtherIsNotLive(t *testing.T) {
	for _, g := range good() {
		if g.Level == 5 {
			b := laid(t, layout{a: g}, g.Disks)
			lose(t, b, 0, 0)
			refuses(t, b, but(g.Disks, 0, 1), 0, layout{a: g}, api.ErrLost)
			refuses(t, b, but(g.Disks, 0, 1), 1, layout{a: g}, api.ErrLost)
		}
	}
}

// P16.1, R8: a bench with fewer disks than the geometry has: those past it are missing, whatever live says of them.
func TestFewerDisks(t *testing.T) {
	for _, g := range good() {
		for _, l := range []layout{{a: g}, {at(5, 3, 2), g, 6}, {g, at(6, 4, 1), 11}} {
			for disks := max(g.Disks-3, 1); disks < g.Disks; disks++ {
				whole := laid(t, l, disks)
				for d := range disks {
					start := whole.Clone()
					lose(t, start, d, d)
					renews(t, start, but([]int{disks, g.Disks, 20}[(d+disks)%3], d), d, l, 0)
				}
			}
		}
	}
}

// P16.1: live shorter than the bench's disks: the rest is not live, so it may be made anew, and is not read.
func TestShortLive(t *testing.T) {
	for _, l := range append(few(), layout{a: at(6, 8, 4)}, layout{a: at(5, 8, 1)}) {
		disks := l.disks()
		whole := laid(t, l, disks)
		for size := range disks {
			for d := size; d < disks; d++ {
				start := whole.Clone()
				lose(t, start, d, d)
				renews(t, start, everyone(size), d, l, 1<<disks-1<<size)
			}
			for d := range size {
				refuses(t, whole, everyone(size), d, l, api.ErrArg)
			}
		}
	}
}

// P16.1: live longer than the bench's disks: what it says of more counts for nothing, neither of d nor of the others.
func TestLongLive(t *testing.T) {
	for _, l := range few() {
		disks := l.disks()
		whole := laid(t, l, disks)
		for d := range disks {
			for _, more := range [][]bool{{true}, {false, true, true}, everyone(20)} {
				start := whole.Clone()
				lose(t, start, d, d)
				renews(t, start, append(but(disks, d), more...), d, l, 0)
			}
		}
		for d := disks; d < disks+20; d++ {
			refuses(t, whole, everyone(disks+10), d, l, api.ErrArg)
		}
	}
}

// P16.1: disks that no geometry has are not asked: it is nothing to them whether they are live, or have failed.
func TestMoreDisks(t *testing.T) {
	for _, l := range []layout{{a: at(5, 3, 2)}, {at(5, 3, 1), at(6, 4, 1), 8}, {at(6, 5, 4), at(5, 4, 2), 4}} {
		disks := l.disks()
		whole := laid(t, l, api.MaxDisks)
		for x := range 1 << (api.MaxDisks - disks) {
			for d := range disks {
				start := whole.Clone()
				live := append(but(disks, d), choice(x, api.MaxDisks-disks)...)
				for k := disks; k < api.MaxDisks; k++ {
					if (x+d+k)%3 == 0 {
						start.Fail(k)
					}
				}
				lose(t, start, d, x)
				hasDisk(t, renews(t, start, live, d, l, 0), d, l)
			}
		}
	}
}

// P16.1: a live disk that has failed is missing, as one that is not live is; but it is no disk to be made anew.
func TestLiveAndFailed(t *testing.T) {
	g := at(6, 5, 2)
	b := laid(t, layout{a: g}, 5)
	is(t, "Fail", b.Fail(1), api.OK)
	lose(t, b, 3, 0)
	hasDisk(t, renews(t, b, but(5, 3), 3, layout{a: g}, 1<<1), 3, layout{a: g})
	refuses(t, b, but(5, 3), 1, layout{a: g}, api.ErrArg)
	refuses(t, b, but(5, 1), 1, layout{a: g}, api.ErrFailed)
}
