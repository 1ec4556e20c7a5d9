package backup_test

import (
	"testing"

	"wattle/api"
	"wattle/backup"
	"wattle/bench"
)

// account is a bench on which Put and Get are done in the plainest way.
type account struct {
	*bench.Bench
}

func (a account) live(live []bool) []int {
	var l []int
	for d, yes := range live {
		if yes && d < a.Len() {
			l = append(l, d)
		}
	}
	return l
}

func (a account) put(live []bool, k kept) api.Errno {
	if k.epoch < 0 || k.epoch > 65535 || k.window < 0 || k.window > 16 || len(k.data) > 28 {
		return api.ErrArg
	}
	for _, x := range k.data {
		if len(x) != 32 {
			return api.ErrArg
		}
	}
	for _, d := range a.live(live) {
		for i, x := range sectorsOf(k) {
			if a.Write(d, 6+i, x) == api.ErrDown {
				return api.ErrDown
			}
		}
	}
	for _, d := range a.live(live) {
		a.Flush(d)
	}
	return api.OK
}

// get is the data of the first live disk whose sectors are those of a backup of that name.
func (a account) get(live []bool, epoch, window int) ([][]byte, bool) {
	for _, d := range a.live(live) {
		on := make([][]byte, 29)
		for i := range on {
			on[i], _ = a.Read(d, 6+i)
		}
		if len(on[0]) == 0 || int(on[0][7]) > 28 {
			continue
		}
		k := kept{epoch, window, on[1 : 1+on[0][7]]}
		if has(on, k) {
			return k.data, true
		}
	}
	return nil, false
}

// P19.1, R5: many calls in many orders, right ones and wrong ones, held against the account of each bench.
func TestAsAccount(t *testing.T) {
	for seed := range 160 {
		x := uint32(seed)*2654435761 + 1
		next := func(n int) int {
			x = x*1664525 + 1013904223
			return int(x>>8) % n
		}
		disks := 1 + seed%api.MaxDisks
		b := newBench(t, disks)
		a := account{b.Clone()}
		some := func() kept {
			k := kept{next(3) * 255, next(3) + next(40)/39*20, dataOf(next(4), []int{0, 1, 2, 3, 5, 9, 28, 28 + next(12)/11}[next(8)])}
			if next(40) == 0 {
				k.epoch = 65535 + next(3)
			}
			if next(40) == 0 && len(k.data) > 0 {
				i := next(len(k.data))
				k.data[i] = k.data[i][:31]
			}
			return k
		}
		both := func(do func(b *bench.Bench)) {
			do(b)
			do(a.Bench)
		}
		for range 60 {
			d, at, n := next(disks), next(api.Size), next(1<<16)
			k, live := some(), choice(next(1<<10), next(10))
			switch kind := next(20); {
			case kind < 10:
				is(t, "Put", backup.Put(b, live, k.epoch, k.window, k.data...), a.put(live, k))
			case kind < 13:
				both(func(b *bench.Bench) { b.Limit(n%40 - 1) })
			case kind < 15:
				both(func(b *bench.Bench) { b.Crash(choice(n, 16)...) })
			case kind < 16:
				both(func(b *bench.Bench) { b.Write(d, at, full(byte(n))) })
			case kind < 18:
				both(func(b *bench.Bench) { b.Damage(d, api.Backup+at%4, full(byte(n))) })
			case kind < 19:
				both(func(b *bench.Bench) { b.Fail(d) })
			default:
				both(func(b *bench.Bench) { b.Replace(d) })
			}
			same(t, "as the account", b, a.Bench)
			for _, live := range [][]bool{everyone(disks), live, choice(1<<d, disks)} {
				for name := range 9 {
					epoch, window := name/3*255, name%3
					data, ok := a.get(live, epoch, window)
					findsIf(t, "as the account", ok, b, live, kept{epoch, window, data})
				}
			}
		}
	}
}
