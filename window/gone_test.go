package window_test

import (
	"testing"

	"wattle/api"
	"wattle/bench"
)

// hasEnd fails the test unless each disk of the new geometry that has not failed, and is none of out, has of each row
// what that geometry has there.
func hasEnd(t *testing.T, b *bench.Bench, p pair, out int) {
	t.Helper()
	for row, line := range chart(p.to) {
		for d, x := range sectorsOf(line, p.content) {
			if d < b.Len() && !b.Failed(d) && out>>d&1 == 0 {
				stands(t, b, d, api.Data+row, x)
			}
		}
	}
}

// masks is each choice of so many disks, or fewer, of those there are.
func masks(disks, most int) []int {
	var l []int
	for mask := range 1 << disks {
		if digits(mask) <= most {
			l = append(l, mask)
		}
	}
	return l
}

// P20.1: of each pair each disk lost from the beginning on, in one of the ways a disk is lost: each window is read as it
// was written, and the others get what they are to have.
func TestOneGone(t *testing.T) {
	for _, p := range pairs(true) {
		whole := laid(t, p, p.to.Disks)
		for d := range p.to.Disks {
			b := whole.Clone()
			live := gone(b, 1<<d, d+p.a.Disks+p.to.Chunk)
			for k := range p.windows() {
				moves(t, b, live, p, k)
			}
			hasEnd(t, b, p, 1<<d)
		}
	}
}

// P20.1: of each pair of level 6 each two disks lost from the beginning on.
func TestTwoGone(t *testing.T) {
	for _, p := range pairs(true) {
		if p.a.Level != 6 {
			continue
		}
		whole := laid(t, p, p.to.Disks)
		for _, mask := range masks(p.to.Disks, 2) {
			b := whole.Clone()
			live := gone(b, mask, mask+p.a.Chunk)
			for k := range p.windows() {
				moves(t, b, live, p, k)
			}
			hasEnd(t, b, p, mask)
		}
	}
}

// P20.1: a lost disk is written no more: what is done is just what is done by hand, each choice of disks gone in each way,
// also where more are gone than parity makes up for.
func TestWriteWithGone(t *testing.T) {
	for _, p := range few() {
		whole := painted(t, p.to.Disks)
		for _, mask := range masks(p.to.Disks, p.to.Disks) {
			if p.to.Disks == 8 && mask%3 != 0 {
				continue
			}
			b := whole.Clone()
			live := gone(b, mask, mask)
			k := mask % p.windows()
			writes(t, b, live, p, k, several(mask, p.size()))
			is(t, "Write", write(b, live, p, k, several(mask, p.size())), api.OK)
			for d := range p.to.Disks {
				if mask>>d&1 == 1 && !b.Failed(d) {
					for at := range api.Size {
						stands(t, b, d, at, mixed(d*api.Size+at, api.Sector))
					}
				}
			}
		}
	}
}

// P20.1: disks lost in between, behind each window, in each way; of level 6 a second one behind a later window.
func TestGoneInBetween(t *testing.T) {
	for i, p := range few() {
		whole := laid(t, p, p.to.Disks)
		for d := range p.to.Disks {
			for when := range p.windows() {
				b, mask := whole.Clone(), 0
				for k := range p.windows() {
					if k == when {
						mask |= 1 << d
					}
					if p.a.Level == 6 && k == when+2 {
						mask |= 1 << ((d + when + 1) % p.to.Disks)
					}
					moves(t, b, gone(b, mask, i+when), p, k)
				}
				hasEnd(t, b, p, mask)
			}
		}
	}
}

// P20.1: each choice of disks gone: a window is read where each of its sectors can be found, on its own disk or by its
// row's others, and is lost where one can't; one that is past the old end in whole is zeros all the same. Nothing changes.
func TestTooManyGone(t *testing.T) {
	lost, found, past := 0, 0, 0
	for _, p := range few() {
		whole := laid(t, p, p.to.Disks)
		for _, mask := range masks(p.to.Disks, p.to.Disks) {
			if p.to.Disks == 8 && mask%3 != 0 {
				continue
			}
			b := whole.Clone()
			live := gone(b, mask, mask)
			for k := range p.windows() {
				switch {
				case !readable(b, live, p, k):
					lost++
					readsNone(t, b, live, p, k, api.ErrLost)
				case p.held(k) == 0:
					past++
					reads(t, b, live, p, k, zeros(p.size()))
				default:
					found++
					reads(t, b, live, p, k, p.contents(k))
				}
			}
			if b.Writes() != 0 || b.Pending() != 0 {
				t.Error(p, mask, b.Writes(), b.Pending())
			}
		}
	}
	if lost == 0 || found == 0 || past == 0 {
		t.Error("not all cases", lost, found, past)
	}
}

// P20.1: too many disks lost, by hand: a window of the old end, one in part past it, and one past it in whole.
func TestLostByHand(t *testing.T) {
	p := pair{at(5, 3, 1), at(5, 8, 1)} // 32 sectors, seven a window
	b := laid(t, p, 8)
	for _, live := range [][]bool{but(8, 0, 1), but(8, 0, 2), but(8, 1, 2), but(8, 0, 1, 2), {true}, make([]bool, 8), nil} {
		for k := range 5 {
			readsNone(t, b, live, p, k, api.ErrLost)
		}
		for k := 5; k < 16; k++ {
			reads(t, b, live, p, k, zeros(7))
		}
	}
	// the new disks are not asked
	for k := range 16 {
		reads(t, b, everyone(3), p, k, p.contents(k))
		reads(t, b, []bool{true, false, true, false, true}, p, k, p.contents(k))
	}
}

// P20.1: each sector of a window stands on a disk that is there, and all parity is lost: it is read; with one disk more
// lost it is not.
func TestOwnDiskAlone(t *testing.T) {
	for _, c := range []struct {
		p      pair // a window has the rows of one stripe
		parity [][]int
	}{
		{pair{at(5, 3, 4), at(5, 3, 1)}, [][]int{{2}, {1}, {0}, {2}}},
		{pair{at(5, 8, 4), at(5, 8, 2)}, [][]int{{7}, {6}, {5}, {4}}},
		{pair{at(6, 4, 4), at(6, 4, 2)}, [][]int{{3, 0}, {2, 3}, {1, 2}, {0, 1}}},
		{pair{at(6, 5, 4), at(6, 5, 1)}, [][]int{{4, 0}, {3, 4}, {2, 3}, {1, 2}}},
	} {
		disks := c.p.to.Disks
		b := laid(t, c.p, disks)
		for k, out := range c.parity {
			reads(t, b, but(disks, out...), c.p, k, c.p.contents(k))
			one := (out[len(out)-1] + 1) % disks
			readsNone(t, b, but(disks, append(out, one)...), c.p, k, api.ErrLost)
		}
	}
}

// P20.1: no disk is live: nothing is read, nothing written, and Write is OK, as nothing is asked of the bench.
func TestNoneLive(t *testing.T) {
	for i, p := range few() {
		b := laid(t, p, p.to.Disks)
		for _, live := range [][]bool{nil, {}, make([]bool, 3), make([]bool, 20), everyone(8)[:0]} {
			for k := range p.windows() {
				if p.held(k) > 0 {
					readsNone(t, b, live, p, k, api.ErrLost)
				} else {
					reads(t, b, live, p, k, zeros(p.size()))
				}
				writesNone(t, b, live, p, k, several(i, p.size()), api.OK)
			}
		}
	}
}

// P20.1: live shorter than there are disks: the rest is not live; longer: what it says of more counts for nothing.
func TestOtherLives(t *testing.T) {
	for i, p := range few() {
		whole := laid(t, p, p.to.Disks)
		for size := range p.to.Disks {
			b := whole.Clone()
			for k := range p.windows() {
				if readable(b, everyone(size), p, k) {
					reads(t, b, everyone(size), p, k, p.contents(k))
				} else {
					readsNone(t, b, everyone(size), p, k, api.ErrLost)
				}
				writes(t, b.Clone(), everyone(size), p, k, several(i, p.size()))
			}
		}
		for _, more := range [][]bool{{true}, {false, true, true}, everyone(20)} {
			b := whole.Clone()
			for k := range p.windows() {
				writes(t, b.Clone(), append(everyone(p.to.Disks), more...), p, k, several(i, p.size()))
				moves(t, b, append(everyone(p.to.Disks), more...), p, k)
			}
			hasEnd(t, b, p, 0)
		}
	}
}

// P20.1: a bench of more disks than the new geometry has: those past it are not written, whether they are live or have
// failed; what is pending there is settled where they are live, and stays pending where they are not.
func TestMoreDisks(t *testing.T) {
	for _, p := range []pair{few()[0], few()[3], few()[6], {at(5, 3, 4), at(5, 3, 1)}} {
		more := api.MaxDisks - p.to.Disks
		whole := laid(t, p, api.MaxDisks)
		for x := range 1 << more {
			b := whole.Clone()
			for d := p.to.Disks; d < api.MaxDisks; d++ {
				is(t, "Write by hand", b.Write(d, api.Data+d, full(byte(d))), api.OK)
				if (x+d)%3 == 0 {
					is(t, "Fail", b.Fail(d), api.OK)
				}
			}
			live := append(everyone(p.to.Disks), choice(x, more)...)
			for k := range p.windows() {
				reads(t, b, live, p, k, p.contents(k))
				writes(t, b, live, p, k, p.contents(k))
			}
			for d := p.to.Disks; d < api.MaxDisks; d++ {
				if b.Failed(d) {
					continue
				}
				stands(t, b, d, api.Data+d, full(byte(d)))
				c := b.Clone()
				c.Crash()
				if live[d] {
					stands(t, c, d, api.Data+d, full(byte(d)))
				} else {
					stands(t, c, d, api.Data+d, mixed(d*api.Size+api.Data+d, api.Sector))
				}
			}
			hasEnd(t, b, p, 0)
		}
	}
}

// P20.1, R8: a bench with fewer disks than the geometries have: those past it are missing, whatever live says of them.
func TestFewerDisks(t *testing.T) {
	lost, found := 0, 0
	for i, p := range pairs(true) {
		for disks := max(p.to.Disks-3, 1); disks < p.to.Disks; disks++ {
			whole, k := laid(t, p, disks), (i+disks)%p.windows()
			for _, live := range [][]bool{everyone(disks), everyone(20)} {
				b := whole.Clone()
				if readable(b, live, p, k) {
					found++
					reads(t, b, live, p, k, p.contents(k))
				} else {
					lost++
					readsNone(t, b, live, p, k, api.ErrLost)
				}
				writes(t, b, live, p, k, several(i, p.size()))
				if b.Pending() != 0 {
					t.Error(p, disks, b.Pending())
				}
			}
		}
	}
	if lost == 0 || found == 0 {
		t.Error("not all cases", lost, found)
	}
}

// P20.1: a bench with one disk fewer than the new geometry, and with two of level 6: all windows are moved all the same.
func TestMovedOnFewerDisks(t *testing.T) {
	for _, p := range few() {
		for fewer := 1; fewer <= budget(p.to); fewer++ {
			if p.to.Disks-fewer < p.a.Disks-budget(p.a) {
				continue
			}
			b := laid(t, p, p.to.Disks-fewer)
			for k := range p.windows() {
				moves(t, b, everyone(8), p, k)
			}
			hasEnd(t, b, p, 0)
		}
	}
}
