package update_test

import (
	"slices"
	"testing"

	"wattle/api"
	"wattle/bench"
	"wattle/record"
	"wattle/stripe"
	"wattle/update"
)

// account is a bench on which Plan, Do and Empty are done in the plainest way.
type account struct {
	*bench.Bench
}

func (a account) there(live []bool, d int) bool {
	return d < len(live) && live[d] && d < a.Len() && !a.Failed(d)
}

func (a account) plan(live []bool, g api.Geom, n int, x []byte, seq int) (record.Record, api.Errno) {
	all := order(g)
	switch {
	case len(x) != 32:
		return record.Record{}, api.ErrArg
	case n < 0 || n >= len(all):
		return record.Record{}, api.ErrRange
	}
	s, mask := all[n], 0
	data, e := stripe.Read(a.Bench, live, g, s.row)
	if e != api.OK {
		return record.Record{}, e
	}
	data[s.k] = slices.Clone(x)
	for d := range g.Disks {
		if !a.there(live, d) {
			mask |= 1 << d
		}
	}
	return planned(g, s, data, mask, seq), api.OK
}

func (a account) do(live []bool, g api.Geom, n int, x []byte, seq int) api.Errno {
	r, e := a.plan(live, g, n, x, seq)
	if e != api.OK {
		return e
	}
	if seq < 1 || seq > greatest {
		return api.ErrArg
	}
	if !doByHand(a.Bench, live, r) {
		return api.ErrDown
	}
	return api.OK
}

func (a account) empty(live []bool, seq int) api.Errno {
	if seq < 1 || seq > greatest {
		return api.ErrArg
	}
	if !putByHand(a.Bench, live, record.Record{Seq: seq}) {
		return api.ErrDown
	}
	return api.OK
}

// P15.1, R5: many calls in many orders, of several geometries on one bench, right ones and wrong ones, held against the
// account of each bench.
func TestAsAccount(t *testing.T) {
	all := good()
	for seed := range 100 {
		x := uint32(seed)*2654435761 + 1
		next := func(n int) int {
			x = x*1664525 + 1013904223
			return int(x>>8) % n
		}
		two := []api.Geom{all[next(len(all))], all[next(len(all))]}
		disks := min(two[0].Disks+next(3)-1, api.MaxDisks)
		b := painted(t, disks)
		a := account{b.Clone()}
		both := func(do func(b *bench.Bench)) {
			do(b)
			do(a.Bench)
		}
		for range 50 {
			d, i, g := next(disks), next(1<<16), two[next(8)/7]
			n, seq, live := next(width(g)*16+4)-2, next(40)-1, everyone(disks)
			if next(3) == 0 {
				live = choice(next(1<<10)|next(1<<10)|next(1<<10), next(10))
			}
			sector := mixed(i, 32-next(20)/19)
			switch k := next(22); {
			case k < 11:
				is(t, "Do", update.Do(b, live, g, n, sector, seq), a.do(live, g, n, sector, seq))
			case k < 13:
				is(t, "Empty", update.Empty(b, live, seq), a.empty(live, seq))
			case k < 15:
				both(func(b *bench.Bench) { b.Limit(i%40 - 1) })
			case k < 18:
				both(func(b *bench.Bench) { b.Crash(choice(i, 16)...) })
			case k < 19:
				both(func(b *bench.Bench) { b.Damage(d, api.Data+i%16, full(byte(i))) })
			case k < 20:
				both(func(b *bench.Bench) { b.Write(d, api.Data+i%16, full(byte(i))) })
			case k < 21:
				both(func(b *bench.Bench) { b.Fail(d) })
			default:
				both(func(b *bench.Bench) {
					for d := range b.Len() {
						b.Replace(d)
					}
				})
			}
			r, e := a.plan(live, g, n, sector, seq)
			plans(t, b, live, g, n, sector, seq, r, e)
			same(t, "as the account", b, a.Bench)
		}
	}
}
