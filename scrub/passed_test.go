package scrub_test

import (
	"testing"

	"wattle/api"
	"wattle/bench"
)

// gone makes a disk go, in one of five ways, and answers which disks are live: it is not live; it has failed though it
// is live; it has failed and is not live; it is past live's end, with all behind it; it was replaced, and is not live.
func gone(t *testing.T, b *bench.Bench, d, way int) []bool {
	t.Helper()
	live := everyone(b.Len())
	if way == 1 || way == 2 || way == 4 {
		is(t, "Fail", b.Fail(d), api.OK)
	}
	if way == 4 {
		is(t, "Replace", b.Replace(d), api.OK)
	}
	switch way {
	case 0, 2, 4:
		live[d] = false
	case 3:
		return live[:d]
	}
	return live
}

// without is the rows for which mask has a digit, but those that disk d is in (d gone, or all from d on).
func without(l layout, mask, d int) []int {
	var rows []int
	for _, row := range rowsIn(mask) {
		if d >= l.of(row).Disks {
			rows = append(rows, row)
		}
	}
	return rows
}

// spoil turns a byte in each row for which mask has a digit, on a disk that is in it (not on d, as that one is gone).
func spoil(t *testing.T, b *bench.Bench, l layout, mask, d int) {
	t.Helper()
	for _, row := range rowsIn(mask) {
		k := (d + 1 + row) % min(l.of(row).Disks, b.Len())
		if k == d {
			k = (d + 1) % min(l.of(row).Disks, b.Len())
		}
		turn(t, b, k, row, row, 0x18)
	}
}

// P17.1: rows of which one disk is gone, in whichever way, are passed over, spoilt or not; the others are found; with two
// geometries these are the rows of the one that does not have the disk.
func TestOneGone(t *testing.T) {
	found := 0
	for i, l := range append(few(), pairs()...) {
		disks := l.disks()
		whole := laid(t, l, disks)
		for d := range disks {
			for way := range 5 {
				for _, mask := range []int{0, 0xFFFF, 0x5A3C, 1 << ((i + d + way) % 16)} {
					b := whole.Clone()
					spoil(t, b, l, mask, d)
					live := gone(t, b, d, way)
					want := without(l, mask, d)
					tells(t, b, live, l, want...)
					found += len(want)
				}
			}
		}
	}
	if found == 0 {
		t.Error("none was found")
	}
}

// P17.1: the spoilt sector on the very disk that is gone, then there again: passed over, then found.
func TestSpoiltAndGone(t *testing.T) {
	for _, l := range few() {
		disks := l.disks()
		b := laid(t, l, disks)
		for d := range disks {
			for line := range api.Rows {
				if d >= l.of(line).Disks {
					continue
				}
				turn(t, b, d, line, d, 2)
				tells(t, b, but(disks, d), l)
				tells(t, b, everyone(d), l)
				tells(t, b, everyone(disks), l, line)
				turn(t, b, d, line, d, 2)
			}
		}
	}
}

// P17.1: each choice of disks gone, some of them not live, some failed: the rows all of whose disks are there are found.
func TestEachChoiceGone(t *testing.T) {
	for _, l := range append(few(), layout{at(5, 3, 2), at(6, 7, 1), 11}, layout{at(6, 8, 4), at(5, 4, 1), 9}) {
		disks := l.disks()
		whole := laid(t, l, disks)
		spoil(t, whole, l, 0xB6ED, -1)
		for x := range 1 << disks {
			b, live := whole.Clone(), everyone(disks)
			least := disks
			for d := disks - 1; d >= 0; d-- {
				if x>>d&1 == 0 {
					continue
				}
				least = d
				if (x+d)%3 > 0 {
					is(t, "Fail", b.Fail(d), api.OK)
				}
				live[d] = (x+d)%3 == 1
			}
			tells(t, b, live, l, without(l, 0xB6ED, least)...)
		}
	}
}

// P17.1, R8: live of each length, shorter than the bench's disks and longer: disks past its end are not live, and what it
// says of disks past the bench's counts for nothing.
func TestLengthOfLive(t *testing.T) {
	for _, l := range append(few(), pairs()...) {
		for _, disks := range []int{l.disks(), api.MaxDisks} {
			b := laid(t, l, disks)
			spoil(t, b, l, 0x9A67, -1)
			for size := range 20 {
				tells(t, b, everyone(size), l, without(l, 0x9A67, size)...)
				tells(t, b, append(everyone(min(size, disks)), make([]bool, 5)...), l, without(l, 0x9A67, min(size, disks))...)
			}
		}
	}
}

// P17.1, R8: a bench with fewer disks than a geometry has: its rows are passed over, whatever live says of the others.
func TestFewerDisks(t *testing.T) {
	for i, g := range good() {
		for _, l := range []layout{{a: g}, {at(5, 3, 2), g, 6}, {g, at(6, 4, 1), 11}, {at(5, 3, 1), g, api.Rows}} {
			for disks := 1; disks < g.Disks; disks++ {
				b := laid(t, l, disks)
				mask := 0xC5A9 >> (i % 3)
				for d := range disks {
					turn(t, b, d, 15, d, 1<<d)
				}
				spoil(t, b, l, mask, -1)
				for _, more := range []int{disks, g.Disks, 20} {
					tells(t, b, everyone(more), l, wanted(b, everyone(more), l)...)
				}
				if g.Disks > disks && l.a == g && l.split == 0 {
					tells(t, b, everyone(20), l)
				}
			}
		}
	}
}

// P17.1: disks that a row's geometry does not have may be gone: that is nothing to it.
func TestMoreDisksGone(t *testing.T) {
	for _, l := range []layout{{a: at(5, 3, 2)}, {at(5, 3, 1), at(6, 4, 1), 8}, {at(6, 5, 4), at(5, 4, 2), 4}} {
		disks := l.disks()
		whole := laid(t, l, api.MaxDisks)
		spoil(t, whole, l, 0x3D71, -1)
		for x := range 1 << (api.MaxDisks - disks) {
			b := whole.Clone()
			for k := disks; k < api.MaxDisks; k++ {
				if (x+k)%3 == 0 {
					b.Fail(k)
				}
			}
			live := append(everyone(disks), choice(x, api.MaxDisks-disks)...)
			tells(t, b, live, l, rowsIn(0x3D71)...)
		}
	}
}

// P17.1: with all disks gone, in each way, all rows are passed over.
func TestAllGone(t *testing.T) {
	for _, l := range few() {
		disks := l.disks()
		b := laid(t, l, disks)
		spoil(t, b, l, 0xFFFF, -1)
		for _, live := range [][]bool{nil, {}, make([]bool, disks), make([]bool, 20), append(make([]bool, disks), true, true)} {
			tells(t, b, live, l)
		}
		for d := range disks {
			is(t, "Fail", b.Fail(d), api.OK)
		}
		tells(t, b, everyone(disks), l)
	}
}
