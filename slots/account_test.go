package slots_test

import (
	"slices"
	"testing"

	"wattle/api"
	"wattle/bench"
	"wattle/slots"
	"wattle/super"
)

// pend is a pending write of a slot.
type pend struct {
	at int
	s  super.Super
}

// stand is what the slots of one disk ought to be (a Super of Gen 0: none).
type stand struct {
	settled [2]super.Super
	pending []pend
	failed  bool
}

// last is what was written in a slot last.
func (d *stand) last(at int) super.Super {
	s := d.settled[at]
	for _, p := range d.pending {
		if p.at == at {
			s = p.s
		}
	}
	return s
}

// account is what the slots of a bench ought to be, told in the plainest way.
type account struct {
	disks []stand
	left  int // writes; below 0: no limit
	down  bool
}

func (a *account) store(live []bool, s super.Super) api.Errno {
	if super.Check(s) != api.OK {
		return api.ErrArg
	}
	asked := false
	for d := range a.disks {
		if d >= len(live) || !live[d] {
			continue
		}
		asked = true
		if a.down || a.disks[d].failed {
			continue
		}
		if a.left == 0 {
			a.down = true
			continue
		}
		a.left--
		a.disks[d].pending = append(a.disks[d].pending, pend{s.Gen & 1, s})
	}
	if asked && a.down {
		return api.ErrDown
	}
	for d := range a.disks {
		if d < len(live) && live[d] {
			a.settle(d, 1<<32-1)
		}
	}
	return api.OK
}

// settle makes those of a disk's pending writes stay, in order, that keep has a digit for.
func (a *account) settle(d, keep int) (rest int) {
	for _, p := range a.disks[d].pending {
		if keep&1 == 1 {
			a.disks[d].settled[p.at] = p.s
		}
		keep >>= 1
	}
	a.disks[d].pending = nil
	return keep
}

func (a *account) crash(keep int) {
	for d := range a.disks {
		keep = a.settle(d, keep)
	}
	a.left, a.down = -1, false
}

func (a *account) damage(d, at int, s super.Super) {
	if !a.disks[d].failed {
		a.disks[d].settled[at] = s
		a.disks[d].pending = slices.DeleteFunc(a.disks[d].pending, func(p pend) bool { return p.at == at })
	}
}

func (a *account) best() (super.Super, []bool, api.Errno) {
	if a.down {
		return super.Super{}, nil, api.ErrDown
	}
	var best super.Super
	for i := range 2 * len(a.disks) {
		if s := a.disks[i/2].last(i % 2); s.Gen > best.Gen {
			best = s
		}
	}
	if best.Gen == 0 {
		return super.Super{}, nil, api.ErrNone
	}
	has := make([]bool, len(a.disks))
	for i := range 2 * len(a.disks) {
		if s := a.disks[i/2].last(i % 2); s.Gen > 0 && (s.Gen == best.Gen || s.Gen == best.Gen-1) {
			has[i/2] = true
		}
	}
	return best, has, api.OK
}

// agrees fails the test unless Best, and what is pending, are as the account has them.
func (a *account) agrees(t *testing.T, b *bench.Bench) {
	t.Helper()
	pending := 0
	for _, d := range a.disks {
		pending += len(d.pending)
	}
	if b.Down() != a.down || b.Pending() != pending {
		t.Fatalf("%v, pending %d; want %v, %d", b.Down(), b.Pending(), a.down, pending)
	}
	s, has, e := slots.Best(b)
	wantS, wantHas, wantE := a.best()
	if s != wantS || !slices.Equal(has, wantHas) || e != wantE {
		t.Fatalf("%v, %v, %d; want %v, %v, %d", s, has, e, wantS, wantHas, wantE)
	}
}

// P10.1, R5: many calls in many orders, right ones and wrong ones, held against the account of each bench.
func TestAsAccount(t *testing.T) {
	for seed := range 300 {
		x := uint32(seed)*2654435761 + 1
		next := func(n int) int {
			x = x*1664525 + 1013904223
			return int(x>>8) % n
		}
		disks, gen := 1+seed%api.MaxDisks, 1+next(3)
		b, a := newBench(t, disks), &account{disks: make([]stand, disks), left: -1}
		for range 120 {
			d, at := next(disks), next(2)
			s := other(max(gen+next(5)-2, 0), next(256))
			if next(3) == 0 {
				gen++
			}
			switch k := next(20); {
			case k < 10:
				live := choice(next(1<<10), next(10))
				is(t, "Store", slots.Store(b, live, s), a.store(live, s))
			case k < 12:
				n := next(disks+2) - 1
				b.Limit(n)
				if !a.down {
					a.left = n
				}
			case k < 15:
				keep := next(1 << 16)
				b.Crash(choice(keep, 16)...)
				a.crash(keep)
			case k < 17 && s.Gen > 0:
				b.Damage(d, at, encode(t, s))
				a.damage(d, at, s)
			case k < 18:
				b.Damage(d, at, full(byte(k)))
				a.damage(d, at, super.Super{})
			case k < 19:
				b.Fail(d)
				a.disks[d] = stand{failed: true}
			case b.Failed(d):
				is(t, "Replace", b.Replace(d), api.OK)
				a.disks[d] = stand{}
			}
			a.agrees(t, b)
		}
	}
}
