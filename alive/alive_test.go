package alive_test

import (
	"math"
	"slices"
	"testing"

	"wattle/alive"
	"wattle/api"
	"wattle/bench"
)

func newBench(t *testing.T, disks int) *bench.Bench {
	t.Helper()
	b, e := bench.New(disks)
	if e != api.OK {
		t.Fatal("New", disks, e)
	}
	return b
}

// choice is the lowest digits of x, as bools.
func choice(x, size int) []bool {
	l := make([]bool, size)
	for i := range l {
		l[i] = x>>i&1 == 1
	}
	return l
}

// R8: a disk is live if live says so of it and the bench has it; it serves if it has not failed beside.
func TestIsAndServes(t *testing.T) {
	for disks := 1; disks <= 5; disks++ {
		for size := range 7 {
			for x := range 1 << size {
				for failed := range 1 << disks {
					b := newBench(t, disks)
					for d := range disks {
						if failed>>d&1 == 1 {
							b.Fail(d)
						}
					}
					for d := -2; d < 9; d++ {
						is := d >= 0 && d < disks && x>>d&1 == 1
						serves := is && failed>>d&1 == 0
						if alive.Is(b, choice(x, size), d) != is || alive.Serves(b, choice(x, size), d) != serves {
							t.Error(disks, choice(x, size), failed, d)
						}
					}
				}
			}
		}
	}
}

// R1, R8: disks that there are not.
func TestNoSuchDisk(t *testing.T) {
	b, live := newBench(t, 8), choice(1<<20-1, 20)
	for _, d := range []int{-1, -8, math.MinInt, math.MinInt + 8, 8, 9, 19, 20, 256, 1 << 32, math.MaxInt} {
		for _, live := range [][]bool{nil, {}, live[:1], live} {
			if alive.Is(b, live, d) || alive.Serves(b, live, d) {
				t.Error(live, d)
			}
		}
	}
}

// R8: Each goes through the live disks of the bench, from 0 on.
func TestEach(t *testing.T) {
	for disks := 1; disks <= 4; disks++ {
		for size := range 7 {
			for x := range 1 << size {
				var got, want []int
				for d := range min(disks, size) {
					if x>>d&1 == 1 {
						want = append(want, d)
					}
				}
				e := alive.Each(newBench(t, disks), choice(x, size), func(d int) api.Errno {
					got = append(got, d)
					return api.OK
				})
				if e != api.OK || !slices.Equal(got, want) {
					t.Error(disks, choice(x, size), got, e)
				}
			}
		}
	}
}

// Each ends at the first error, whichever it is; but that a disk has failed is passed over.
func TestEachEnds(t *testing.T) {
	b, live := newBench(t, 4), choice(0b1101, 4)
	for e := api.ErrArg; e <= api.ErrState; e++ {
		for at := range 4 {
			n := 0
			got := alive.Each(b, live, func(d int) api.Errno {
				n++
				if d >= at {
					return e
				}
				return api.ErrFailed
			})
			if e == api.ErrFailed && (got != api.OK || n != 3) || e != api.ErrFailed && (got != e || n != []int{1, 2, 2, 3}[at]) {
				t.Error(e, at, got, n)
			}
		}
	}
}
