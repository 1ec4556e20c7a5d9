package rebuild_test

import (
	"slices"
	"testing"

	"wattle/api"
	"wattle/rebuild"
)

// R4: what is handed in is as it was, behind its length too, where a call is done and where it is refused.
func TestHandedIn(t *testing.T) {
	for _, l := range few() {
		disks := l.disks()
		whole := laid(t, l, disks)
		for d := range disks {
			for size := range disks + 1 {
				for x := range 4 {
					b, live := whole.Clone(), append(but(disks, d), choice(x*5, 4)...)
					was := slices.Clone(live)
					if x == 3 {
						cut(t, b)
					}
					disk(b, live[:size], d, l)
					disk(b, live[:size], size, l)
					if !slices.Equal(live, was) {
						t.Errorf("%v, %d, %d: changed", l, d, size)
					}
				}
			}
		}
	}
}

// R4: what lies behind live's length is not read: neither of d nor of the others.
func TestBehind(t *testing.T) {
	for _, l := range few() {
		disks := l.disks()
		whole := laid(t, l, disks)
		for d := range disks {
			start := whole.Clone()
			lose(t, start, d, d)
			live := everyone(disks)
			renews(t, start, live[:d], d, l, 1<<disks-1<<d)
			refuses(t, start, live[:d+1], d, l, api.ErrArg)
		}
	}
}

// R4: live is not kept: changing it behind a call changes nothing on the bench.
func TestNotKept(t *testing.T) {
	for _, l := range few() {
		disks := l.disks()
		for d := range disks {
			b, live := laid(t, l, disks), but(disks, d)
			lose(t, b, d, d)
			b = renews(t, b, live, d, l, 0)
			was := b.Clone()
			clear(live)
			same(t, "its own way", b, was)
			renews(t, b, but(disks, d), d, l, 0)
		}
	}
}

// R4: nil and the empty list are the same.
func TestNilAndEmpty(t *testing.T) {
	for _, l := range few() {
		b := laid(t, l, 7)
		for _, live := range [][]bool{nil, {}, everyone(3)[:0]} {
			refuses(t, b, live, 0, l, api.ErrLost)
			refuses(t, b, live, 7, l, api.ErrArg)
			is(t, "Disk", disk(b, live, 6, layout{a: at(5, 3, 1)}), api.OK)
		}
	}
}

// R5: the same question has the same answer, whatever was asked between; a bench, its clone, and another bench have
// nothing to do with each other.
func TestEachBenchByItself(t *testing.T) {
	for _, l := range few() {
		disks := l.disks()
		whole := laid(t, l, disks)
		for d := range disks {
			b, other := whole.Clone(), painted(t, disks)
			lose(t, b, d, d)
			c, was := b.Clone(), b.Clone()
			hasDisk(t, renews(t, c, but(disks, d), d, l, 0), d, l)
			is(t, "Disk", disk(c, but(disks, d), d, l), api.OK)
			for _, g := range good() {
				rebuild.Disk(other, but(disks, d), d, g, at(6, 4, 1), 3)
			}
			same(t, "its own way", b, was)
			hasDisk(t, renews(t, b, but(disks, d), d, l, 0), d, l)
			hasDisk(t, c, d, l)
		}
	}
}
