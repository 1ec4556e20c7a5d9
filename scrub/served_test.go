package scrub_test

import (
	"slices"
	"testing"

	"wattle/api"
	"wattle/bench"
	"wattle/log"
	"wattle/rebuild"
	"wattle/stripe"
	"wattle/update"
)

// P17.1: rows that stripe wrote: each agrees, and one of which a disk was out meanwhile does not, till the disk is made
// anew.
func TestWrittenByStripe(t *testing.T) {
	for _, l := range append(few(), pairs()...) {
		disks := l.disks()
		for d := range disks {
			b := newBench(t, disks)
			for line := range api.Rows {
				is(t, "Write", stripe.Write(b, everyone(disks), l.of(line), line, dataOf(l.of(line), line)...), api.OK)
			}
			tells(t, b, everyone(disks), l)
			is(t, "Flush", stripe.Flush(b, everyone(disks)), api.OK)
			var stale []int
			for line := d % 3; line < api.Rows; line += 3 {
				g := l.of(line)
				is(t, "Write", stripe.Write(b, but(disks, d), g, line, dataOf(g, line+20)...), api.OK)
				if d < g.Disks {
					stale = append(stale, line)
				}
			}
			tells(t, b, everyone(disks), l, stale...)
			is(t, "Disk", rebuild.Disk(b, but(disks, d), d, l.a, l.to, l.split), api.OK)
			tells(t, b, everyone(disks), l)
		}
	}
}

// P17.1: sectors that update wrote, with all disks live: none.
func TestWrittenByUpdate(t *testing.T) {
	for _, g := range good() {
		b := laid(t, layout{a: g}, g.Disks)
		for n := 0; n < width(g)*api.Rows; n += 3 {
			is(t, "Do", update.Do(b, everyone(g.Disks), g, n, mixed(n, api.Sector), n+1), api.OK)
			if n%5 == 0 {
				tells(t, b, everyone(g.Disks), layout{a: g})
			}
		}
		tells(t, b, everyone(g.Disks), layout{a: g})
	}
}

// P17.1: an update is cut off at each write, with each choice of what survives: its row alone may be told, and is where
// its sectors do not agree; behind the log's mending none is.
func TestUpdateCutOff(t *testing.T) {
	told, agreed := 0, 0
	for _, g := range []api.Geom{at(5, 3, 1), at(6, 4, 2)} {
		l, live := layout{a: g}, everyone(g.Disks)
		for limit := 4 * g.Disks; limit <= 4*g.Disks+budget(g); limit++ {
			b := laid(t, l, g.Disks)
			b.Limit(limit)
			is(t, "Do", update.Do(b, live, g, 13, mixed(5, api.Sector), 1), api.ErrDown)
			for x := range 1 << b.Pending() {
				c := b.Clone()
				c.Crash(choice(x, b.Pending())...)
				want := wanted(c, live, l)
				tells(t, c, live, l, want...)
				told += len(want)
				if len(want) == 0 {
					agreed++
				}
				if r, ok := log.Get(c, live); ok {
					is(t, "Apply", log.Apply(c, live, r), api.OK)
				}
				tells(t, c, live, l)
			}
		}
	}
	if told == 0 || agreed == 0 {
		t.Error(told, agreed)
	}
}

// P17.1: a disk fails, is replaced, and made anew: its rows are passed over till it is live; a new one that is taken as
// live too early is found in each row, but where it should have zeros.
func TestReplaced(t *testing.T) {
	for _, l := range append(few(), pairs()...) {
		disks := l.disks()
		b := laid(t, l, disks)
		for d := range disks {
			is(t, "Fail", b.Fail(d), api.OK)
			tells(t, b, everyone(disks), l)
			is(t, "Replace", b.Replace(d), api.OK)
			tells(t, b, but(disks, d), l)
			var in []int
			for line := range api.Rows {
				if d < l.of(line).Disks {
					in = append(in, line)
				}
			}
			tells(t, b, everyone(disks), l, in...)
			is(t, "Disk", rebuild.Disk(b, but(disks, d), d, l.a, l.to, l.split), api.OK)
			tells(t, b, everyone(disks), l)
		}
	}
}

// account is a bench on which Rows is done in the plainest way.
type account struct {
	*bench.Bench
}

func (a account) rows(live []bool, l layout) ([]int, api.Errno) {
	all := good()
	switch {
	case !slices.Contains(all, l.a):
		return nil, api.ErrArg
	case l.split != 0 && !slices.Contains(all, l.to):
		return nil, api.ErrArg
	case l.split < 0 || l.split > 16:
		return nil, api.ErrArg
	case a.Down():
		return nil, api.ErrDown
	}
	return wanted(a.Bench, live, l), api.OK
}

// P17.1, R5: many calls in many orders, of several geometries on one bench, right ones and wrong ones, held against the
// account of each bench.
func TestAsAccount(t *testing.T) {
	all, no := good(), bad()
	count, told := map[api.Errno]int{}, 0
	for seed := range 200 {
		x := uint32(seed)*2654435761 + 1
		next := func(n int) int {
			x = x*1664525 + 1013904223
			return int(x>>8) % n
		}
		right := layout{all[next(33)], all[next(33)], next(17)}
		disks := min(max(right.disks()+next(3)-1, 1), api.MaxDisks)
		b := laid(t, right, disks)
		a := account{b.Clone()}
		both := func(do func(b *bench.Bench)) {
			do(b)
			do(a.Bench)
		}
		for range 80 {
			d, i := next(disks), next(1<<16)
			switch n := next(24); {
			case n < 14:
				l, live := right, everyone(disks+next(3))
				if next(8) == 0 {
					l = layout{[]api.Geom{right.a, right.to, no[next(len(no))]}[next(3)], []api.Geom{right.a, right.to, no[next(len(no))]}[next(3)], next(19) - 1}
				}
				if next(4) == 0 {
					live = choice(next(1<<10)|next(1<<10)|next(1<<10), next(10))
				}
				got, e := rows(b, live, l)
				want, wanted := a.rows(live, l)
				if e != wanted || !slices.Equal(got, want) {
					t.Fatal(live, l, got, e, want, wanted)
				}
				count[e]++
				told += len(got)
			case n < 15:
				both(func(b *bench.Bench) { b.Limit(i%40 - 1) })
			case n < 17:
				both(func(b *bench.Bench) { b.Crash(choice(i, 16)...) })
			case n < 18:
				both(func(b *bench.Bench) { b.Damage(d, api.Data+i%16, full(byte(i))) })
			case n < 20:
				both(func(b *bench.Bench) { b.Write(d, api.Data+i%16, full(byte(i))) })
			case n < 21:
				both(func(b *bench.Bench) { b.Flush(d) })
			case n < 23:
				both(func(b *bench.Bench) {
					stripe.Write(b, everyone(disks), right.of(i%16), i%16, dataOf(right.of(i%16), i)...)
				})
			case i%8 == 0:
				both(func(b *bench.Bench) { b.Fail(d) })
			default:
				both(func(b *bench.Bench) { b.Replace(d) })
			}
		}
		same(t, "account", b, a.Bench)
	}
	if count[api.OK] < 4000 || count[api.ErrArg] < 400 || count[api.ErrDown] < 100 || told < 4000 {
		t.Error("not all cases", count, told)
	}
}
