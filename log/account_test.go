package log_test

import (
	"testing"

	"wattle/api"
	"wattle/bench"
	"wattle/log"
	"wattle/record"
)

// account is a bench on which Put, Get and Apply are done in the plainest way.
type account struct {
	*bench.Bench
}

func (a account) live(live []bool) []int {
	var l []int
	for d, yes := range live {
		if yes && d < a.Len() {
			l = append(l, d)
		}
	}
	return l
}

func (a account) put(live []bool, r record.Record) api.Errno {
	if record.Check(r) != api.OK {
		return api.ErrArg
	}
	for _, d := range a.live(live) {
		for i, x := range sectorsOf(r) {
			if a.Write(d, api.Log+i, x) == api.ErrDown {
				return api.ErrDown
			}
		}
	}
	for _, d := range a.live(live) {
		a.Flush(d)
	}
	return api.OK
}

func (a account) apply(live []bool, r record.Record) api.Errno {
	if record.Check(r) != api.OK {
		return api.ErrArg
	}
	asked := map[int]int{}
	for _, x := range r.Items {
		for _, d := range a.live(live) {
			if d == x.Disk {
				asked[d]++
				if a.Write(d, x.At, x.Data) == api.ErrDown {
					return api.ErrDown
				}
			}
		}
	}
	for d := range asked {
		a.Flush(d)
	}
	return api.OK
}

func (a account) get(live []bool) record.Record {
	var best record.Record
	for _, d := range a.live(live) {
		var parts [][]byte
		for i := range 4 {
			x, _ := a.Read(d, api.Log+i)
			parts = append(parts, x)
		}
		if r, e := record.Decode(parts...); e == api.OK && r.Seq > best.Seq {
			best = r
		}
	}
	return best
}

// P12.1, R5: many calls in many orders, right ones and wrong ones, held against the account of each bench.
func TestAsAccount(t *testing.T) {
	for seed := range 200 {
		x := uint32(seed)*2654435761 + 1
		next := func(n int) int {
			x = x*1664525 + 1013904223
			return int(x>>8) % n
		}
		disks := 1 + seed%api.MaxDisks
		b := newBench(t, disks)
		a := account{b.Clone()}
		some := func() record.Record {
			r := of(next(60))
			for range next(4) {
				r.Items = append(r.Items, to(next(200), next(disks+1), api.Data-next(30)/29+next(api.Rows)))
			}
			return r
		}
		both := func(do func(b *bench.Bench)) {
			do(b)
			do(a.Bench)
		}
		for range 60 {
			d, at, n := next(disks), next(api.Size), next(1<<16)
			r, live := some(), choice(next(1<<10), next(10))
			switch k := next(20); {
			case k < 6:
				is(t, "Put", log.Put(b, live, r), a.put(live, r))
			case k < 12:
				is(t, "Apply", log.Apply(b, live, r), a.apply(live, r))
			case k < 14:
				both(func(b *bench.Bench) { b.Limit(n%20 - 1) })
			case k < 16:
				both(func(b *bench.Bench) { b.Crash(choice(n, 16)...) })
			case k < 17:
				both(func(b *bench.Bench) { b.Write(d, at, full(byte(n))) })
			case k < 18:
				both(func(b *bench.Bench) { b.Damage(d, api.Log+at%4, full(byte(n))) })
			case k < 19:
				both(func(b *bench.Bench) { b.Fail(d) })
			default:
				both(func(b *bench.Bench) { b.Replace(d) })
			}
			same(t, "as the account", b, a.Bench)
			for _, live := range [][]bool{everyone(disks), live, choice(1<<d, disks)} {
				findsOr(t, "as the account", b, live, a.get(live))
			}
		}
	}
}
