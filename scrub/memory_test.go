package scrub_test

import (
	"slices"
	"testing"

	"wattle/api"
	"wattle/scrub"
)

// R4: what is handed in is as it was, behind its length too, where a call is done and where it is refused.
func TestHandedIn(t *testing.T) {
	for _, l := range few() {
		disks := l.disks()
		for x := range 64 {
			b := laid(t, l, disks)
			spoil(t, b, l, x*1023, -1)
			live := append(everyone(disks), choice(x, 6)...)
			was := slices.Clone(live)
			if x%3 == 2 {
				cut(t, b)
			}
			rows(b, live[:x%len(live)], l)
			rows(b, live[:disks], l)
			rows(b, live, layout{l.a, l.to, x})
			if !slices.Equal(live, was) {
				t.Errorf("%v, %d: changed", l, x)
			}
		}
	}
}

// R4: what lies behind live's length is not read.
func TestBehind(t *testing.T) {
	for _, l := range few() {
		disks := l.disks()
		b := laid(t, l, disks)
		spoil(t, b, l, 0xFFFF, -1)
		live := everyone(disks)
		for size := range disks + 1 {
			tells(t, b, live[:size], l, without(l, 0xFFFF, size)...)
		}
	}
}

// R4: the list told is new memory: it shares none with what was told before, nor with a later call's, and live is not
// kept.
func TestNewMemory(t *testing.T) {
	for _, l := range few() {
		disks := l.disks()
		b, live := laid(t, l, disks), everyone(disks)
		spoil(t, b, l, 0xD2B5, -1)
		was := b.Clone()
		one, e := rows(b, live, l)
		is(t, "Rows", e, api.OK)
		two, e := rows(b, live, l)
		is(t, "Rows", e, api.OK)
		clear(one[:cap(one)])
		if !slices.Equal(two, rowsIn(0xD2B5)) {
			t.Error(l, two)
		}
		clear(two)
		clear(live)
		same(t, "its own way", b, was)
		tells(t, b, everyone(disks), l, rowsIn(0xD2B5)...)
	}
}

// R4: nil and the empty list are the same.
func TestNilAndEmpty(t *testing.T) {
	for _, l := range few() {
		b := laid(t, l, 7)
		spoil(t, b, l, 0xFFFF, -1)
		for _, live := range [][]bool{nil, {}, everyone(7)[:0]} {
			tells(t, b, live, l)
			refuses(t, b, live, layout{l.a, l.to, -1}, api.ErrArg)
		}
	}
}

// R5: the same question has the same answer, whatever was asked between; a bench, its clone, and another bench have
// nothing to do with each other.
func TestEachBenchByItself(t *testing.T) {
	for _, l := range few() {
		disks := l.disks()
		b, other := laid(t, l, disks), painted(t, disks)
		spoil(t, b, l, 0x4B, -1)
		c := b.Clone()
		for _, g := range good() {
			scrub.Rows(other, everyone(disks), g, at(6, 4, 1), 3)
			scrub.Rows(b, everyone(disks), g, at(6, 4, 1), 3)
		}
		cut(t, other)
		tells(t, b, everyone(disks), l, rowsIn(0x4B)...)
		spoil(t, c, l, 0xB4, -1)
		tells(t, c, everyone(disks), l, rowsIn(0xFF)...)
		tells(t, b, everyone(disks), l, rowsIn(0x4B)...)
		spoil(t, b, l, 0x4B, -1)
		tells(t, b, everyone(disks), l)
		tells(t, c, everyone(disks), l, rowsIn(0xFF)...)
	}
}
