package window_test

import (
	"testing"

	"wattle/api"
	"wattle/bench"
)

// account is a bench on which Read and Write are done in the plainest way.
type account struct {
	*bench.Bench
}

// read is the sectors of window k as the old geometry's rows have them, whatever stands there.
func (a account) read(live []bool, p pair, k int) ([][]byte, api.Errno) {
	if k < 0 || k >= p.windows() {
		return nil, api.ErrArg
	}
	l := zeros(p.size())
	for n := k * p.size(); n < min((k+1)*p.size(), capacity(p.a)); n++ {
		x, e := a.one(live, p.a, n)
		if e != api.OK {
			return nil, e
		}
		l[n-k*p.size()] = x
	}
	return l, api.OK
}

// one is sector n: of its own disk, or of its row.
func (a account) one(live []bool, g api.Geom, n int) ([]byte, api.Errno) {
	for row, line := range chart(g) {
		for d, x := range line {
			if x != n {
				continue
			}
			if serves(a.Bench, live, d) {
				return a.Read(d, api.Data+row)
			}
			return a.found(live, row, line, n)
		}
	}
	panic("no such sector")
}

// found is sector n, of a disk that is lost: that with which the parity of its row agrees.
func (a account) found(live []bool, row int, line []int, n int) ([]byte, api.Errno) {
	var p, q []byte
	data, out := map[int][]byte{}, []int{} // by the sectors' places among the row's data; those that are lost
	for d, m := range line {
		k := 0 // how many of the row's sectors are ahead of this one
		for _, other := range line {
			if other >= 0 && other < m {
				k++
			}
		}
		if !serves(a.Bench, live, d) {
			if m >= 0 {
				out = append(out, k)
			}
			if m == n { // the one that is asked for is the first one lost
				out[0], out[len(out)-1] = out[len(out)-1], out[0]
			}
			continue
		}
		x, e := a.Read(d, api.Data+row)
		if e != api.OK {
			return nil, e
		}
		switch m {
		case onP:
			p = x
		case onQ:
			q = x
		default:
			data[k] = x
		}
	}
	return solve(data, out, p, q)
}

// solve is the first one of those that are out, found by trying all bytes; the others' data, P and Q (as far as these are
// there) are known.
func solve(data map[int][]byte, out []int, p, q []byte) ([]byte, api.Errno) {
	known := min(len(p), 1) + min(len(q), 1)
	if len(out) > known {
		return nil, api.ErrLost
	}
	l := zeros(len(data) + len(out))
	for k, x := range data {
		l[k] = x
	}
	withP, withQ := sums(l)
	want := full(0)
	for i := range want {
		if len(out) == 1 && p != nil {
			want[i] = p[i] ^ withP[i]
			continue
		}
		for x := range 256 {
			added := doubled(byte(x), out[0])
			if len(out) == 2 {
				added ^= doubled(p[i]^withP[i]^byte(x), out[1])
			}
			if added == q[i]^withQ[i] {
				want[i] = byte(x)
				break
			}
		}
	}
	return want, api.OK
}

// doubled is a times 2 to the n.
func doubled(a byte, n int) byte {
	for range n {
		a = twice(a)
	}
	return a
}

func (a account) write(live []bool, p pair, k int, data [][]byte) api.Errno {
	if k < 0 || k >= p.windows() || len(data) != p.size() {
		return api.ErrArg
	}
	return written(a.Bench, live, p, k, data)
}

// P20.1, R5: many calls in many orders, of several pairs on one bench, right ones and wrong ones, disks lost and replaced,
// the power going and coming back, held against the account of each bench.
func TestAsAccount(t *testing.T) {
	all := pairs(true)
	for seed := range 160 {
		x := uint32(seed)*2654435761 + 1
		next := func(n int) int {
			x = x*1664525 + 1013904223
			return int(x>>8) % n
		}
		disks := 3 + seed%6
		b := painted(t, disks)
		a := account{b.Clone()}
		both := func(do func(b *bench.Bench)) {
			do(b)
			do(a.Bench)
		}
		two := []pair{all[next(len(all))], all[next(len(all))]}
		for range 50 {
			p := two[next(2)]
			d, n, k, live := next(disks), next(1<<16), next(p.windows()+2)-1, choice(next(1<<10)|next(1<<10), 2+next(9))
			switch what := next(20); {
			case what < 9:
				data := several(n, p.size()-next(20)/19)
				is(t, "Write", write(b, live, p, k, data), a.write(live, p, k, data))
			case what < 11:
				data, e := read(b, live, p, k)
				if e == api.OK {
					is(t, "Write", write(b, live, p, k, data), a.write(live, p, k, data))
				}
			case what < 13:
				both(func(b *bench.Bench) { b.Limit(n%40 - 1) })
			case what < 15:
				both(func(b *bench.Bench) { b.Crash(choice(n, 16)...) })
			case what < 17:
				both(func(b *bench.Bench) { b.Write(d, api.Data+n%api.Rows, full(byte(n))) })
			case what < 18:
				both(func(b *bench.Bench) { b.Fail(d) })
			default:
				both(func(b *bench.Bench) { b.Replace(d) })
			}
			for _, live := range [][]bool{everyone(disks), live} {
				want, e := a.read(live, p, k)
				if got, f := read(b, live, p, k); f != e || !alike(got, want) {
					t.Fatalf("%d: Read(%v, %v, %d): %x, %d; want %x, %d", seed, live, p, k, got, f, want, e)
				}
			}
			same(t, "as the account", b, a.Bench)
		}
	}
}
