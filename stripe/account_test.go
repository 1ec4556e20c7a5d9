package stripe_test

import (
	"testing"

	"wattle/api"
	"wattle/bench"
	"wattle/stripe"
)

// account is a bench on which Read, One, Write and Flush are done in the plainest way.
type account struct {
	*bench.Bench
}

func (a account) there(live []bool, d int) bool {
	return d < len(live) && live[d] && d < a.Len() && !a.Failed(d)
}

func (a account) read(live []bool, g api.Geom, row int) ([][]byte, api.Errno) {
	if row < 0 || row > 15 {
		return nil, api.ErrArg
	}
	data, p, q := make([][]byte, width(g)), []byte(nil), []byte(nil)
	for d, k := range deal(g, row) {
		if !a.there(live, d) {
			continue
		}
		x, e := a.Read(d, api.Data+row)
		if e != api.OK {
			return nil, e
		}
		switch k {
		case onP:
			p = x
		case onQ:
			q = x
		default:
			data[k] = x
		}
	}
	return solve(data, p, q)
}

// solve finds what is missing by trying all bytes.
func solve(data [][]byte, p, q []byte) ([][]byte, api.Errno) {
	var out []int
	for k, x := range data {
		if x == nil {
			out = append(out, k)
			data[k] = full(0)
		}
	}
	known := 0
	for _, x := range [][]byte{p, q} {
		if x != nil {
			known++
		}
	}
	if len(out) > known {
		return nil, api.ErrLost
	}
	if len(out) == 0 {
		return data, api.OK
	}
	withP, withQ := sums(data)
	for i := range api.Sector {
		if len(out) == 1 && p != nil {
			data[out[0]][i] = p[i] ^ withP[i]
			continue
		}
		for x := range 256 {
			y := byte(0)
			if len(out) == 2 {
				y = p[i] ^ withP[i] ^ byte(x)
				data[out[1]][i] = y
			}
			data[out[0]][i] = byte(x)
			added := doubled(byte(x), out[0])
			if len(out) == 2 {
				added ^= doubled(y, out[1])
			}
			if added == q[i]^withQ[i] {
				break
			}
		}
	}
	return data, api.OK
}

// doubled is a times 2 to the n.
func doubled(a byte, n int) byte {
	for range n {
		a = twice(a)
	}
	return a
}

func (a account) one(live []bool, g api.Geom, n int) ([]byte, api.Errno) {
	l := order(g)
	if n < 0 || n >= len(l) {
		return nil, api.ErrRange
	}
	if a.there(live, l[n].disk) {
		return a.Read(l[n].disk, api.Data+l[n].row)
	}
	data, e := a.read(live, g, l[n].row)
	if e != api.OK {
		return nil, e
	}
	return data[l[n].k], api.OK
}

func (a account) write(live []bool, g api.Geom, row int, data [][]byte) api.Errno {
	if row < 0 || row > 15 || len(data) != width(g) {
		return api.ErrArg
	}
	for d, x := range sectorsOf(g, row, data) {
		if a.there(live, d) && a.Write(d, api.Data+row, x) != api.OK {
			return api.ErrDown
		}
	}
	return api.OK
}

func (a account) flush(live []bool) api.Errno {
	for d, yes := range live {
		if yes && d < a.Len() && a.Flush(d) == api.ErrDown {
			return api.ErrDown
		}
	}
	return api.OK
}

// P14.1, R5: many calls in many orders, of several geometries on one bench, right ones and wrong ones, held against the
// account of each bench.
func TestAsAccount(t *testing.T) {
	all := good()
	for seed := range 160 {
		x := uint32(seed)*2654435761 + 1
		next := func(n int) int {
			x = x*1664525 + 1013904223
			return int(x>>8) % n
		}
		disks := 1 + seed%api.MaxDisks
		b := painted(t, disks)
		a := account{b.Clone()}
		both := func(do func(b *bench.Bench)) {
			do(b)
			do(a.Bench)
		}
		two := []api.Geom{all[next(len(all))], all[next(len(all))]}
		for range 60 {
			d, n, g := next(disks), next(1<<16), two[next(2)]
			row, live := next(18)-1, choice(next(1<<10)|next(1<<10), next(10))
			switch k := next(20); {
			case k < 9:
				data := several(n, width(g)-next(20)/19)
				is(t, "Write", stripe.Write(b, live, g, row, data...), a.write(live, g, row, data))
			case k < 12:
				is(t, "Flush", stripe.Flush(b, live), a.flush(live))
			case k < 14:
				both(func(b *bench.Bench) { b.Limit(n%20 - 1) })
			case k < 16:
				both(func(b *bench.Bench) { b.Crash(choice(n, 16)...) })
			case k < 18:
				both(func(b *bench.Bench) { b.Damage(d, api.Data+row&15, full(byte(n))) })
			case k < 19:
				both(func(b *bench.Bench) { b.Fail(d) })
			default:
				both(func(b *bench.Bench) { b.Replace(d) })
			}
			for _, live := range [][]bool{everyone(disks), live} {
				data, e := a.read(live, g, row)
				reads(t, b, live, g, row, data, e)
				s, e := a.one(live, g, n%130-5)
				hasOne(t, b, live, g, n%130-5, s, e)
			}
			same(t, "as the account", b, a.Bench)
		}
	}
}
