package stripe_test

import (
	"bytes"
	"slices"
	"testing"

	"wattle/api"
	"wattle/stripe"
)

// spread is the sectors side by side in one memory, each with bytes behind its length, and that memory.
func spread(l [][]byte) (parts [][]byte, all []byte) {
	for i, x := range l {
		all = append(append(all, x...), mixed(i, 8)...)
	}
	at := 0
	for _, x := range l {
		parts = append(parts, all[at:at+len(x)])
		at += len(x) + 8
	}
	return parts, all
}

// R4: what is handed in is as it was, behind its length too, where a call is done and where it is refused.
func TestHandedIn(t *testing.T) {
	for _, g := range some() {
		for _, row := range []int{0, 15, 16, -1} {
			for _, n := range []int{width(g), width(g) - 1, 0} {
				b := laid(t, g, g.Disks)
				parts, memory := spread(several(row, n))
				list := append(slices.Clone(parts), full(7), full(8))
				live := append(everyone(g.Disks-1), false, true, true)
				was, wasList, wasLive := slices.Clone(memory), copied(list), slices.Clone(live)
				stripe.Write(b, live[:g.Disks-1], g, row, list[:n]...)
				stripe.Read(b, live[:g.Disks-1], g, row)
				stripe.One(b, live[:g.Disks-1], g, row)
				stripe.Flush(b, live[:g.Disks-1])
				if !bytes.Equal(memory, was) || !alike(list, wasList) || !slices.Equal(live, wasLive) {
					t.Errorf("%v, %d, %d: changed", g, row, n)
				}
			}
		}
	}
}

// R4: what lies behind a sector's length, behind the data's and behind live's is not read.
func TestBehind(t *testing.T) {
	for _, g := range some() {
		data := several(4, width(g))
		parts, _ := spread(data)
		list := append(slices.Clone(parts), full(7), full(8))
		live := everyone(g.Disks)
		b, want := laid(t, g, g.Disks), laid(t, g, g.Disks)
		is(t, "Write", stripe.Write(b, live[:2], g, 4, list[:width(g)]...), api.OK)
		byHand(t, want, 4, 3, sectorsOf(g, 4, data))
		same(t, "written", b, want)
		is(t, "Flush", stripe.Flush(b, live[:1]), api.OK)
		want.Flush(0)
		same(t, "flushed", b, want)
		reads(t, b, live[:0], g, 4, nil, api.ErrLost)
		hasOne(t, b, live[:0], g, 4, nil, api.ErrLost)
	}
}

// R4: what was handed in is not kept: changing it behind the call changes nothing on the bench.
func TestNotKept(t *testing.T) {
	for _, g := range some() {
		data := several(4, width(g))
		l, live := copied(data), everyone(g.Disks)
		b := newBench(t, g.Disks)
		is(t, "Write", stripe.Write(b, live, g, 4, l...), api.OK)
		was := b.Clone()
		for _, x := range l {
			clear(x)
		}
		clear(l)
		clear(live)
		same(t, "its own way", b, was)
		reads(t, b, everyone(g.Disks), g, 4, data, api.OK)
	}
}

// R4: one sector handed in at several places is each of these; the row's sectors go each their own way.
func TestOneAtSeveralPlaces(t *testing.T) {
	for _, g := range some() {
		x := mixed(3, api.Sector)
		data := slices.Repeat([][]byte{x}, width(g))
		b := newBench(t, g.Disks)
		is(t, "Write", stripe.Write(b, everyone(g.Disks), g, 2, data...), api.OK)
		got, e := stripe.Read(b, everyone(g.Disks), g, 2)
		if e != api.OK || !alike(got, data) {
			t.Fatal(g, got, e)
		}
		for k := range got {
			got[k][0]++
			if got[k][0] != x[0]+1 {
				t.Error(g, k, "shares memory")
			}
		}
	}
}

// R4: each answer is new memory, with all disks there and with some gone: changing one, or writing behind its length,
// changes neither the bench nor another answer, nor another sector of the same one; nor does a later call change it.
func TestHandedOut(t *testing.T) {
	for _, g := range some() {
		for mask := range 1 << g.Disks {
			if digits(mask) > budget(g) {
				continue
			}
			b := laid(t, g, g.Disks)
			live := gone(b, g, mask, mask)
			was := b.Clone()
			one, _ := stripe.Read(b, live, g, 3)
			two, _ := stripe.Read(b, live, g, 3)
			for k := range one {
				for i := range one[k] {
					one[k][i] ^= byte(1 + k)
				}
				_ = append(one[k], full(77)...)
			}
			_ = append(one[:1], full(78))
			for k, x := range dataOf(g, 3) {
				for i := range x {
					x[i] ^= byte(1 + k)
				}
				if k != 1 && !bytes.Equal(one[k], x) {
					t.Errorf("%v, %b: sector %d shares memory", g, mask, k)
				}
			}
			for n := range order(g) {
				x, _ := stripe.One(b, live, g, n)
				y, _ := stripe.One(b, live, g, n)
				clear(x)
				_ = append(x, full(79)...)
				hasOne(t, b, live, g, n, y, api.OK)
			}
			same(t, "answers changed", b, was)
			hasAll(t, b, live, g)
			is(t, "Write", stripe.Write(b, live, g, 3, several(1, width(g))...), api.OK)
			if !alike(two, dataOf(g, 3)) {
				t.Errorf("%v, %b: an answer changes behind its call", g, mask)
			}
		}
	}
}

// R4: nil and the empty list are the same, as live and as data.
func TestNilAndEmpty(t *testing.T) {
	for _, g := range some() {
		b := laid(t, g, g.Disks)
		was := b.Clone()
		for _, live := range [][]bool{nil, {}, everyone(3)[:0]} {
			reads(t, b, live, g, 0, nil, api.ErrLost)
			hasOne(t, b, live, g, 0, nil, api.ErrLost)
			is(t, "Write", stripe.Write(b, live, g, 0, dataOf(g, 1)...), api.OK)
			is(t, "Flush", stripe.Flush(b, live), api.OK)
		}
		for _, data := range [][][]byte{nil, {}, dataOf(g, 1)[:0]} {
			is(t, "Write", stripe.Write(b, everyone(g.Disks), g, 0, data...), api.ErrArg)
		}
		same(t, "nil and empty", b, was)
	}
}

// R5: the same question has the same answer, whatever was asked between; a bench, its clone, and another bench have
// nothing to do with each other.
func TestEachBenchByItself(t *testing.T) {
	for _, g := range some() {
		b, other := laid(t, g, g.Disks), newBench(t, g.Disks)
		c, live := b.Clone(), everyone(g.Disks)
		is(t, "Write", stripe.Write(c, live, g, 3, several(1, width(g))...), api.OK)
		is(t, "Write", stripe.Write(other, live, g, 3, several(2, width(g))...), api.OK)
		c.Fail(0)
		for _, h := range good() {
			stripe.Read(other, everyone(h.Disks), h, 3)
			stripe.One(other, everyone(h.Disks), h, 3)
		}
		hasAll(t, b, live, g)
		reads(t, c, live, g, 3, several(1, width(g)), api.OK)
		reads(t, other, live, g, 3, several(2, width(g)), api.OK)
		hasAll(t, b, live, g)
	}
}
