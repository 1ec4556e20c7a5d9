package rebuild_test

import (
	"slices"
	"testing"

	"wattle/api"
	"wattle/bench"
	"wattle/rebuild"
	"wattle/stripe"
)

// account is a bench on which Disk is done in the plainest way.
type account struct {
	*bench.Bench
}

func (a account) disk(live []bool, d int, l layout) api.Errno {
	all := good()
	switch {
	case d < 0 || d >= a.Len():
		return api.ErrArg
	case d < len(live) && live[d]:
		return api.ErrArg
	case !slices.Contains(all, l.a):
		return api.ErrArg
	case l.split != 0 && !slices.Contains(all, l.to):
		return api.ErrArg
	case l.split < 0 || l.split > 16:
		return api.ErrArg
	case a.Failed(d):
		return api.ErrFailed
	}
	for row := range 16 {
		g := l.of(row)
		if d >= g.Disks {
			continue
		}
		data, e := stripe.Read(a.Bench, live, g, row)
		if e != api.OK {
			return e
		}
		if e := a.Write(d, 36+row, sectorsOf(g, row, data)[d]); e != api.OK {
			return e
		}
	}
	return a.Flush(d)
}

// P16.1, R5: many calls in many orders, of several geometries on one bench, right ones and wrong ones, held against the
// account of each bench.
func TestAsAccount(t *testing.T) {
	all, no := good(), bad()
	count := map[api.Errno]int{}
	for seed := range 150 {
		x := uint32(seed)*2654435761 + 1
		next := func(n int) int {
			x = x*1664525 + 1013904223
			return int(x>>8) % n
		}
		three := []api.Geom{all[next(len(all))], all[next(len(all))], no[next(len(no))]}
		disks := min(three[0].Disks+next(4)-1, api.MaxDisks)
		b := painted(t, disks)
		a := account{b.Clone()}
		both := func(do func(b *bench.Bench)) {
			do(b)
			do(a.Bench)
		}
		for range 60 {
			d, i, k := next(disks), next(1<<16), next(disks)
			l := layout{three[next(20)*2/19], three[next(20)/7%3], next(19) - 1}
			live := everyone(disks)
			if next(4) == 0 {
				live = choice(next(1<<10)|next(1<<10)|next(1<<10), next(10))
			}
			if d < len(live) && next(12) > 0 {
				live[d] = false
			}
			switch n := next(24); {
			case n < 14:
				if i%40 == 0 {
					d -= 9
				}
				e := rebuild.Disk(b, live, d, l.a, l.to, l.split)
				is(t, "Disk", e, a.disk(live, d, l))
				count[e]++
			case n < 16:
				both(func(b *bench.Bench) { b.Limit(i%40 - 1) })
			case n < 19:
				both(func(b *bench.Bench) { b.Crash(choice(i, 16)...) })
			case n < 20:
				both(func(b *bench.Bench) { b.Damage(k, api.Data+i%16, full(byte(i))) })
			case n < 21:
				both(func(b *bench.Bench) { b.Write(k, api.Data+i%16, full(byte(i))) })
			case n < 22:
				both(func(b *bench.Bench) { b.Fail(k) })
			default:
				both(func(b *bench.Bench) {
					for d := range b.Len() {
						b.Replace(d)
					}
				})
			}
			same(t, "as the account", b, a.Bench)
		}
	}
	for _, e := range []api.Errno{api.OK, api.ErrArg, api.ErrFailed, api.ErrDown, api.ErrLost} {
		if count[e] < 20 {
			t.Error("not all answers", count)
		}
	}
}
