package bench_test

import (
	"bytes"
	"slices"
	"testing"

	"wattle/api"
	"wattle/bench"
)

// of is a sector whose bytes are all c.
func of(c byte) []byte {
	return bytes.Repeat([]byte{c}, api.Sector)
}

// sector is a sector most of whose bytes are unlike their neighbours, another one for each seed.
func sector(seed int) []byte {
	b := make([]byte, api.Sector)
	x := uint32(seed)*2654435761 + 12345
	for i := range b {
		x = x*1664525 + 1013904223
		b[i] = byte(x >> 24)
	}
	return b
}

// fates is the n least bits of x, as a keep.
func fates(x, n int) []bool {
	keep := make([]bool, n)
	for i := range keep {
		keep[i] = x>>i&1 == 1
	}
	return keep
}

// pend is a pending write.
type pend struct {
	at int
	b  []byte
}

// stand is what one disk ought to be: what a crash that keeps nothing leaves, and the writes behind it.
type stand struct {
	settled [api.Size][]byte
	pending []pend
	failed  bool
}

func newStand() *stand {
	s := &stand{}
	for at := range s.settled {
		s.settled[at] = of(0)
	}
	return s
}

func (s *stand) last(at int) []byte {
	b := s.settled[at]
	for _, p := range s.pending {
		if p.at == at {
			b = p.b
		}
	}
	return b
}

// refuses is the error by which the disk does not do a write.
func (s *stand) refuses(at int, x []byte) api.Errno {
	switch {
	case s.failed:
		return api.ErrFailed
	case at < 0 || at >= api.Size:
		return api.ErrRange
	case len(x) != api.Sector:
		return api.ErrArg
	}
	return api.OK
}

// account is what a bench ought to be, told in the plainest way: each call gives the error that the bench ought to.
type account struct {
	disks   []*stand
	writes  int
	limited bool
	left    int
	down    bool
}

func newAccount(disks int) *account {
	a := &account{}
	for range disks {
		a.disks = append(a.disks, newStand())
	}
	return a
}

func (a *account) none(d int) bool {
	return d < 0 || d >= len(a.disks)
}

func (a *account) read(d, at int) ([]byte, api.Errno) {
	switch {
	case a.none(d):
		return nil, api.ErrArg
	case a.down:
		return nil, api.ErrDown
	}
	if e := a.disks[d].refuses(at, of(0)); e != api.OK {
		return nil, e
	}
	return a.disks[d].last(at), api.OK
}

func (a *account) write(d, at int, x []byte) api.Errno {
	switch {
	case a.none(d):
		return api.ErrArg
	case a.down:
		return api.ErrDown
	}
	if e := a.disks[d].refuses(at, x); e != api.OK {
		return e
	}
	if a.limited && a.left == 0 {
		a.down = true
		return api.ErrDown
	}
	a.left--
	a.writes++
	a.disks[d].pending = append(a.disks[d].pending, pend{at, slices.Clone(x)})
	return api.OK
}

func (a *account) flush(d int) api.Errno {
	switch {
	case a.none(d):
		return api.ErrArg
	case a.down:
		return api.ErrDown
	case a.disks[d].failed:
		return api.ErrFailed
	}
	for _, p := range a.disks[d].pending {
		a.disks[d].settled[p.at] = p.b
	}
	a.disks[d].pending = nil
	return api.OK
}

func (a *account) fail(d int) api.Errno {
	if a.none(d) {
		return api.ErrArg
	}
	a.disks[d] = newStand()
	a.disks[d].failed = true
	return api.OK
}

func (a *account) replace(d int) api.Errno {
	switch {
	case a.none(d):
		return api.ErrArg
	case !a.disks[d].failed:
		return api.ErrState
	}
	a.disks[d] = newStand()
	return api.OK
}

func (a *account) damage(d, at int, x []byte) api.Errno {
	if a.none(d) {
		return api.ErrArg
	}
	s := a.disks[d]
	if e := s.refuses(at, x); e != api.OK {
		return e
	}
	var rest []pend
	for _, p := range s.pending {
		if p.at != at {
			rest = append(rest, p)
		}
	}
	s.settled[at], s.pending = slices.Clone(x), rest
	return api.OK
}

func (a *account) limit(writes int) {
	if !a.down {
		a.limited, a.left = writes >= 0, writes
	}
}

func (a *account) pending() int {
	n := 0
	for _, s := range a.disks {
		n += len(s.pending)
	}
	return n
}

func (a *account) crash(keep []bool) {
	i := 0
	for _, s := range a.disks {
		for _, p := range s.pending {
			if i < len(keep) && keep[i] {
				s.settled[p.at] = p.b
			}
			i++
		}
		s.pending = nil
	}
	a.down, a.limited = false, false
}

func (a *account) clone() *account {
	c := *a
	c.disks = nil
	for _, s := range a.disks {
		k := *s
		k.pending = slices.Clone(s.pending)
		c.disks = append(c.disks, &k)
	}
	return &c
}

// answers fails the test unless the bench answers as its account says, in all that it can be asked.
func answers(t *testing.T, name string, b *bench.Bench, a *account) {
	t.Helper()
	if b.Len() != len(a.disks) || b.Writes() != a.writes || b.Down() != a.down || b.Pending() != a.pending() {
		t.Fatalf("%s: Len %d, Writes %d, Down %v, Pending %d; want %d, %d, %v, %d", name,
			b.Len(), b.Writes(), b.Down(), b.Pending(), len(a.disks), a.writes, a.down, a.pending())
	}
	for d := -1; d <= len(a.disks); d++ {
		if got, want := b.Failed(d), !a.none(d) && a.disks[d].failed; got != want {
			t.Fatalf("%s: Failed %d: %v; want %v", name, d, got, want)
		}
		for at := -1; at <= api.Size; at++ {
			got, e := b.Read(d, at)
			if want, w := a.read(d, at); e != w || !bytes.Equal(got, want) {
				t.Fatalf("%s: Read %d, %d: %v, %d; want %v, %d", name, d, at, got, e, want, w)
			}
		}
	}
}

// agrees fails the test unless the bench is as its account says: in all that it can be asked, and in what a crash of
// its clone leaves, whichever of the pending writes that keeps.
func agrees(t *testing.T, name string, b *bench.Bench, a *account) {
	t.Helper()
	answers(t, name, b, a)
	for _, x := range []int{0, -1, 0x2D59A6B7} {
		c, ca, keep := b.Clone(), a.clone(), fates(x, a.pending())
		c.Crash(keep...)
		ca.crash(keep)
		answers(t, name+", crashed", c, ca)
	}
	answers(t, name+", its clones crashed", b, a)
}

// pair is a bench and its account: each call is made on both, and the bench's answer must be the account's.
type pair struct {
	t *testing.T
	b *bench.Bench
	a *account
}

func newPair(t *testing.T, disks int) *pair {
	t.Helper()
	b, e := bench.New(disks)
	if b == nil || e != api.OK {
		t.Fatalf("New %d: %v, %d", disks, b, e)
	}
	return &pair{t, b, newAccount(disks)}
}

func (p *pair) same(name string, d, at int, got, want api.Errno) {
	p.t.Helper()
	if got != want {
		p.t.Fatalf("%s %d, %d: %d; want %d", name, d, at, got, want)
	}
}

func (p *pair) write(d, at int, x []byte) {
	p.t.Helper()
	p.same("Write", d, at, p.b.Write(d, at, x), p.a.write(d, at, x))
}

func (p *pair) flush(d int) {
	p.t.Helper()
	p.same("Flush", d, 0, p.b.Flush(d), p.a.flush(d))
}

func (p *pair) fail(d int) {
	p.t.Helper()
	p.same("Fail", d, 0, p.b.Fail(d), p.a.fail(d))
}

func (p *pair) replace(d int) {
	p.t.Helper()
	p.same("Replace", d, 0, p.b.Replace(d), p.a.replace(d))
}

func (p *pair) damage(d, at int, x []byte) {
	p.t.Helper()
	p.same("Damage", d, at, p.b.Damage(d, at, x), p.a.damage(d, at, x))
}

func (p *pair) limit(writes int) {
	p.b.Limit(writes)
	p.a.limit(writes)
}

func (p *pair) crash(keep ...bool) {
	p.b.Crash(keep...)
	p.a.crash(keep)
}

func (p *pair) clone() *pair {
	return &pair{p.t, p.b.Clone(), p.a.clone()}
}

func (p *pair) agrees(name string) {
	p.t.Helper()
	agrees(p.t, name, p.b, p.a)
}
