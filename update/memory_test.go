package update_test

import (
	"bytes"
	"slices"
	"testing"

	"wattle/api"
	"wattle/update"
)

// R4: what is handed in is as it was, behind its length too, where a call is done and where it is refused.
func TestHandedIn(t *testing.T) {
	for _, g := range some() {
		for n := range len(order(g)) + 1 {
			for _, size := range []int{32, 31, 0} {
				for _, seq := range []int{1, 0} {
					b := laid(t, g, g.Disks)
					x, live := mixed(n, 80), append(everyone(g.Disks-1), false, true, true)
					was, wasLive := slices.Clone(x), slices.Clone(live)
					update.Plan(b, live[:g.Disks-1], g, n, x[:size], seq)
					update.Do(b, live[:g.Disks-1], g, n, x[:size], seq)
					update.Empty(b, live[:g.Disks-1], seq)
					if !bytes.Equal(x, was) || !slices.Equal(live, wasLive) {
						t.Errorf("%v, %d: changed", g, n)
					}
				}
			}
		}
	}
}

// R4: what lies behind x's length, and behind live's, is not read.
func TestBehind(t *testing.T) {
	for _, g := range some() {
		for n, s := range order(g) {
			long, live := mixed(n, 80), everyone(g.Disks)
			out := g.Disks - 1
			b := laid(t, g, g.Disks)
			want := b.Clone()
			r := planned(g, s, changed(g, s, long[:32]), 1<<out, 3)
			plans(t, b, live[:out], g, n, long[:32], 3, r, api.OK)
			does(t, b, live[:out], g, n, long[:32], 3)
			doByHand(want, live[:out], r)
			same(t, "done", b, want)
			refuses(t, b, live[:0], g, n, long[:32], 3, api.ErrLost)
			refuses(t, b, live, g, n, long[:31], 3, api.ErrArg)
		}
	}
}

// R4: what was handed in is not kept: changing it behind a call changes neither the Record nor the bench.
func TestNotKept(t *testing.T) {
	for _, g := range some() {
		for n, s := range order(g) {
			x, live := mixed(n, api.Sector), everyone(g.Disks)
			b, want := laid(t, g, g.Disks), planned(g, s, changed(g, s, x), 0, 5)
			r, e := update.Plan(b, live, g, n, x, 5)
			is(t, "Plan", e, api.OK)
			does(t, b, live, g, n, x, 5)
			was := b.Clone()
			clear(x)
			clear(live)
			_ = append(x[:0], full(9)...)
			if !sameRecord(r, want) {
				t.Errorf("%v, %d: the Record changes with x: %v", g, n, r)
			}
			same(t, "its own way", b, was)
			newest(t, b, everyone(g.Disks), want)
		}
	}
}

// R4: each Record is new memory, each of its Items as well, with disks there and with some gone: changing one, or writing
// behind its length, changes neither the bench, nor x, nor another Record, nor another Item of the same one; and what is
// done on the bench behind Plan does not change it.
func TestHandedOut(t *testing.T) {
	for _, g := range some() {
		whole, all := laid(t, g, g.Disks), order(g)
		for mask := range 1 << g.Disks {
			if digits(mask) > budget(g) {
				continue
			}
			n := (mask*5 + 3) % len(all)
			s, b, x := all[n], whole.Clone(), mixed(n, api.Sector)
			live := gone(b, g, mask, mask)
			was, want := b.Clone(), planned(g, s, changed(g, s, x), mask, 5)
			one, _ := update.Plan(b, live, g, n, x, 5)
			two, _ := update.Plan(b, live, g, n, x, 5)
			for i := range one.Items {
				for k := range one.Items[i].Data {
					one.Items[i].Data[k] ^= byte(1 + i)
				}
				_ = append(one.Items[i].Data, full(77)...)
			}
			for i, y := range one.Items {
				for k, c := range y.Data {
					if c != want.Items[i].Data[k]^byte(1+i) {
						t.Fatalf("%v, %b: item %d shares memory", g, mask, i)
					}
				}
			}
			_ = append(one.Items[:0], two.Items...)
			same(t, "answers changed", b, was)
			if !bytes.Equal(x, mixed(n, api.Sector)) || !sameRecord(two, want) {
				t.Errorf("%v, %b: %x, %v", g, mask, x, two)
			}
			does(t, b, live, g, n, full(1), 6)
			if !sameRecord(two, want) {
				t.Errorf("%v, %b: an answer changes behind its call", g, mask)
			}
		}
	}
}

// R4: nil and the empty list are the same, as live and as x.
func TestNilAndEmpty(t *testing.T) {
	for _, g := range some() {
		b := laid(t, g, g.Disks)
		was := b.Clone()
		for _, live := range [][]bool{nil, {}, everyone(3)[:0]} {
			refuses(t, b, live, g, 0, full(1), 1, api.ErrLost)
			is(t, "Empty", update.Empty(b, live, 1), api.OK)
		}
		for _, x := range [][]byte{nil, {}, full(1)[:0]} {
			refuses(t, b, everyone(g.Disks), g, 0, x, 1, api.ErrArg)
		}
		same(t, "nil and empty", b, was)
	}
}

// R5: the same question has the same answer, whatever was asked between; a bench, its clone, and another bench have
// nothing to do with each other.
func TestEachBenchByItself(t *testing.T) {
	for _, g := range some() {
		b, other, live := laid(t, g, g.Disks), newBench(t, g.Disks), everyone(g.Disks)
		c, was, s := b.Clone(), b.Clone(), order(g)[5]
		does(t, c, live, g, 5, full(1), 1)
		does(t, other, live, g, 5, full(2), 2)
		for _, h := range good() {
			update.Plan(other, everyone(h.Disks), h, 5, full(3), 3)
		}
		same(t, "its own way", b, was)
		plans(t, b, live, g, 5, full(4), 4, planned(g, s, changed(g, s, full(4)), 0, 4), api.OK)
		there(t, c, live, g, s, full(1), 0)
		hasOne(t, other, live, g, 5, full(2))
	}
}
