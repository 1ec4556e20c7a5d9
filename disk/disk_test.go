package disk_test

import (
	"bytes"
	"math"
	"slices"
	"testing"

	"wattle/api"
	"wattle/disk"
)

// of is a sector whose bytes are all c.
func of(c byte) []byte {
	return bytes.Repeat([]byte{c}, api.Sector)
}

// mixed is n bytes, most of them unlike their neighbours, others for another seed.
func mixed(n, seed int) []byte {
	b := make([]byte, n)
	x := uint32(seed)*2654435761 + uint32(n)
	for i := range b {
		x = x*1664525 + 1013904223
		b[i] = byte(x >> 24)
	}
	return b
}

// sector is a mixed sector, another one for each seed.
func sector(seed int) []byte {
	return mixed(api.Sector, seed)
}

// write writes b, which must not be refused.
func write(t *testing.T, d *disk.Disk, at int, b []byte) {
	t.Helper()
	if e := d.Write(at, b); e != api.OK {
		t.Fatalf("Write %d: %d", at, e)
	}
}

func flush(t *testing.T, d *disk.Disk) {
	t.Helper()
	if e := d.Flush(); e != api.OK {
		t.Fatalf("Flush: %d", e)
	}
}

func damage(t *testing.T, d *disk.Disk, at int, b []byte) {
	t.Helper()
	if e := d.Damage(at, b); e != api.OK {
		t.Fatalf("Damage %d: %d", at, e)
	}
}

// stands fails the test unless b is what stands at that sector.
func stands(t *testing.T, d *disk.Disk, at int, b []byte) {
	t.Helper()
	if got, e := d.Read(at); e != api.OK || !bytes.Equal(got, b) {
		t.Errorf("Read %d: %v, %d; want %v", at, got, e, b)
	}
}

// pends fails the test unless n writes are pending.
func pends(t *testing.T, d *disk.Disk, n int) {
	t.Helper()
	if got := d.Pending(); got != n {
		t.Errorf("Pending: %d; want %d", got, n)
	}
}

// account is what a disk ought to be, told in the plainest way: what a crash that keeps nothing leaves, and the writes
// behind it.
type account struct {
	settled [api.Size][]byte
	at      []int
	b       [][]byte
}

func newAccount() *account {
	a := &account{}
	for at := range a.settled {
		a.settled[at] = of(0)
	}
	return a
}

func (a *account) read(at int) []byte {
	for i := len(a.at) - 1; i >= 0; i-- {
		if a.at[i] == at {
			return a.b[i]
		}
	}
	return a.settled[at]
}

func (a *account) write(at int, b []byte) {
	a.at, a.b = append(a.at, at), append(a.b, b)
}

func (a *account) crash(keep []bool) {
	for i, at := range a.at {
		if i < len(keep) && keep[i] {
			a.settled[at] = a.b[i]
		}
	}
	a.at, a.b = nil, nil
}

func (a *account) flush() {
	all := make([]bool, len(a.at))
	for i := range all {
		all[i] = true
	}
	a.crash(all)
}

func (a *account) damage(at int, b []byte) {
	var ats []int
	var bs [][]byte
	for i := range a.at {
		if a.at[i] != at {
			ats, bs = append(ats, a.at[i]), append(bs, a.b[i])
		}
	}
	a.settled[at], a.at, a.b = b, ats, bs
}

func (a *account) clone() *account {
	c := *a
	c.at, c.b = slices.Clone(a.at), slices.Clone(a.b)
	return &c
}

// agrees fails the test unless the disk is as its account says, in all that it can be asked.
func agrees(t *testing.T, name string, d *disk.Disk, a *account) {
	t.Helper()
	for at := range api.Size {
		if got, e := d.Read(at); e != api.OK || !bytes.Equal(got, a.read(at)) {
			t.Fatalf("%s: Read %d: %v, %d; want %v", name, at, got, e, a.read(at))
		}
	}
	if d.Pending() != len(a.at) || d.Failed() {
		t.Fatalf("%s: Pending %d, want %d; Failed %v", name, d.Pending(), len(a.at), d.Failed())
	}
}

// fates is the n least bits of x, as a keep.
func fates(x, n int) []bool {
	keep := make([]bool, n)
	for i := range keep {
		keep[i] = x>>i&1 == 1
	}
	return keep
}

// P5.1: api.Size sectors, at first all bytes 0, none pending, not failed.
func TestNew(t *testing.T) {
	d := disk.New()
	stands(t, d, 0, make([]byte, 32))
	agrees(t, "new", d, newAccount())
	agrees(t, "another", disk.New(), newAccount())
}

// P5.1: Read tells what was written there last, pending or not; a write sets its sector alone.
func TestReadTellsTheLast(t *testing.T) {
	for at := range api.Size {
		d, a := disk.New(), newAccount()
		for n := range 3 {
			b := sector(100*at + n)
			write(t, d, at, b)
			a.write(at, b)
			agrees(t, "pending", d, a)
		}
		flush(t, d)
		a.flush()
		agrees(t, "flushed", d, a)
		b := sector(100*at + 50)
		write(t, d, at, b)
		a.write(at, b)
		agrees(t, "pending on flushed", d, a)
	}
}

// P5.1: each write is pending, one of what stands there already too, till Flush; from then on no crash undoes it.
func TestPendingTillFlush(t *testing.T) {
	d := disk.New()
	flush(t, d)
	pends(t, d, 0)
	write(t, d, 0, of(1))
	pends(t, d, 1)
	write(t, d, 0, of(1))
	pends(t, d, 2)
	write(t, d, api.Size-1, of(0))
	pends(t, d, 3)
	if _, e := d.Read(0); e != api.OK {
		t.Error(e)
	}
	pends(t, d, 3)
	flush(t, d)
	pends(t, d, 0)
	d.Crash()
	stands(t, d, 0, of(1))
	write(t, d, 0, of(2))
	pends(t, d, 1)
	d.Crash(false, true)
	stands(t, d, 0, of(1))
	pends(t, d, 0)
}

// P5.1: a crash keeps of the pending writes those of which keep is true, whichever; then none is pending, and what was
// kept is settled.
func TestCrashEachChoice(t *testing.T) {
	places := []int{0, 7, 0, api.Size - 1, 7, 0}
	for x := range 1 << len(places) {
		d, a := disk.New(), newAccount()
		for n, at := range places {
			write(t, d, at, sector(n))
			a.write(at, sector(n))
		}
		keep := fates(x, len(places))
		d.Crash(keep...)
		a.crash(keep)
		agrees(t, "crashed", d, a)
		d.Crash(true, true, true, true, true, true)
		agrees(t, "crashed twice", d, a)
	}
}

// P5.1: one sector written several times: it is as if the kept writes alone had been made, so the last of them stands,
// and without one what stood there before.
func TestCrashOneSector(t *testing.T) {
	for i, r := range []struct {
		keep []bool
		want byte
	}{
		{[]bool{false, false, false}, 9},
		{[]bool{true, false, false}, 1},
		{[]bool{false, true, false}, 2},
		{[]bool{false, false, true}, 3},
		{[]bool{true, true, false}, 2},
		{[]bool{true, false, true}, 3},
		{[]bool{false, true, true}, 3},
		{[]bool{true, true, true}, 3},
	} {
		for _, at := range []int{0, 31, api.Size - 1} {
			d := disk.New()
			write(t, d, at, of(9))
			flush(t, d)
			for n := range 3 {
				write(t, d, at, of(byte(1+n)))
			}
			stands(t, d, at, of(3))
			d.Crash(r.keep...)
			if got, e := d.Read(at); e != api.OK || !bytes.Equal(got, of(r.want)) {
				t.Errorf("%d at %d: %v, %d; want %d", i, at, got, e, r.want)
			}
			pends(t, d, 0)
		}
	}
}

// P5.1: beyond keep's end none stays; what keep has past the pending writes does nothing.
func TestCrashShortAndLongKeep(t *testing.T) {
	for n := range 5 {
		for size := range 8 {
			d, a := disk.New(), newAccount()
			for at := range n {
				write(t, d, at, sector(at))
				a.write(at, sector(at))
			}
			keep := fates(-1, size)
			d.Crash(keep...)
			a.crash(keep)
			agrees(t, "crashed", d, a)
			if n > 0 && size > 0 {
				stands(t, d, min(n, size)-1, sector(min(n, size)-1))
			}
			// nothing of a long keep is left for the writes behind it
			write(t, d, 40, of(4))
			d.Crash()
			stands(t, d, 40, of(0))
		}
	}
}

// P5.1: a crash, or a flush, with nothing pending changes nothing.
func TestNothingPending(t *testing.T) {
	d, a := disk.New(), newAccount()
	for range 2 {
		d.Crash()
		agrees(t, "Crash()", d, a)
		d.Crash(true, false, true)
		agrees(t, "Crash(keep)", d, a)
		flush(t, d)
		agrees(t, "Flush", d, a)
		for at := range api.Size {
			write(t, d, at, sector(at))
			a.write(at, sector(at))
		}
		flush(t, d)
		a.flush()
	}
}

// P5.1: what is damaged is so at once, is not pending, and no crash undoes it; of what was pending that of this sector
// alone goes, and the rest keeps its order.
func TestDamage(t *testing.T) {
	for x := range 1 << 3 {
		d, a := disk.New(), newAccount()
		for n, at := range []int{5, 6, 5, 8, 5, 6} {
			write(t, d, at, sector(n))
			a.write(at, sector(n))
		}
		damage(t, d, 5, of(77))
		a.damage(5, of(77))
		agrees(t, "damaged", d, a)
		pends(t, d, 3)
		stands(t, d, 5, of(77))
		keep := fates(x, 3)
		d.Crash(keep...)
		a.crash(keep)
		agrees(t, "crashed", d, a)
		stands(t, d, 5, of(77))
	}
}

// P5.1: damage where nothing is pending, of the first and the last sector as well; a write on it is pending as ever.
func TestDamageNothingPending(t *testing.T) {
	for _, at := range []int{0, 20, api.Size - 1} {
		d, a := disk.New(), newAccount()
		write(t, d, 30, of(3))
		a.write(30, of(3))
		damage(t, d, at, of(1))
		a.damage(at, of(1))
		agrees(t, "damaged", d, a)
		pends(t, d, 1)
		write(t, d, at, of(2))
		stands(t, d, at, of(2))
		pends(t, d, 2)
		d.Crash()
		stands(t, d, at, of(1))
		stands(t, d, 30, of(0))
	}
}

// P5.1: damage, and a flush: both stand.
func TestDamageAndFlush(t *testing.T) {
	d := disk.New()
	write(t, d, 1, of(1))
	write(t, d, 2, of(2))
	damage(t, d, 1, of(9))
	flush(t, d)
	d.Crash()
	stands(t, d, 1, of(9))
	stands(t, d, 2, of(2))
	pends(t, d, 0)
}

// P5.1: a failed disk: ErrFailed, ahead of all other errors; nothing is pending; it stays so, whatever comes.
func TestFail(t *testing.T) {
	d := disk.New()
	write(t, d, 3, of(3))
	flush(t, d)
	write(t, d, 4, of(4))
	if d.Failed() {
		t.Error("failed ahead of Fail")
	}
	d.Fail()
	for range 2 {
		if !d.Failed() || d.Pending() != 0 {
			t.Error(d.Failed(), d.Pending())
		}
		for _, at := range []int{3, 4, 0, api.Size - 1, -1, api.Size, math.MinInt, math.MaxInt} {
			if b, e := d.Read(at); e != api.ErrFailed || len(b) != 0 {
				t.Error(at, b, e)
			}
			for _, b := range [][]byte{of(1), nil, {}, of(1)[:31], make([]byte, 33)} {
				if e := d.Write(at, b); e != api.ErrFailed {
					t.Error(at, len(b), e)
				}
				if e := d.Damage(at, b); e != api.ErrFailed {
					t.Error(at, len(b), e)
				}
			}
		}
		if e := d.Flush(); e != api.ErrFailed {
			t.Error(e)
		}
		d.Crash(true, true)
		d.Fail()
	}
	if c := d.Clone(); !c.Failed() || c.Pending() != 0 || c.Flush() != api.ErrFailed {
		t.Error("Clone")
	}
}

// P5.1, R2, R8: ErrRange: no such sector, also where b is none; ErrArg: b is no sector. Behind an error nothing has changed.
func TestWrongArguments(t *testing.T) {
	d, a := disk.New(), newAccount()
	write(t, d, 2, of(2))
	a.write(2, of(2))
	wrong := [][]byte{nil, {}, {1}, of(1)[:31], make([]byte, 33), make([]byte, 64)}
	for _, at := range []int{-1, -2, -api.Size, math.MinInt, api.Size, api.Size + 1, math.MaxInt} {
		if b, e := d.Read(at); e != api.ErrRange || len(b) != 0 {
			t.Error(at, b, e)
		}
		for _, b := range append(wrong, of(1)) {
			if e := d.Write(at, b); e != api.ErrRange {
				t.Error("Write", at, len(b), e)
			}
			if e := d.Damage(at, b); e != api.ErrRange {
				t.Error("Damage", at, len(b), e)
			}
		}
	}
	for at := range api.Size {
		for _, b := range wrong {
			if e := d.Write(at, b); e != api.ErrArg {
				t.Error("Write", at, len(b), e)
			}
			if e := d.Damage(at, b); e != api.ErrArg {
				t.Error("Damage", at, len(b), e)
			}
		}
	}
	agrees(t, "behind errors", d, a)
	d.Crash()
	a.crash(nil)
	agrees(t, "behind a crash", d, a)
}

// P5.1, R5: a clone is as the disk is, its pending writes included; each goes its own way from then on.
func TestClone(t *testing.T) {
	d, a := disk.New(), newAccount()
	for n, at := range []int{0, 1, 0, api.Size - 1} {
		write(t, d, at, sector(n))
		a.write(at, sector(n))
		if n == 1 {
			flush(t, d)
			a.flush()
		}
	}
	c, ca := d.Clone(), a.clone()
	agrees(t, "clone", c, ca)
	agrees(t, "cloned", d, a)
	c.Crash(false, true)
	ca.crash([]bool{false, true})
	agrees(t, "clone crashed", c, ca)
	agrees(t, "its clone has crashed", d, a)
	write(t, d, 0, of(50))
	a.write(0, of(50))
	damage(t, d, 1, of(51))
	a.damage(1, of(51))
	agrees(t, "clone", c, ca)
	agrees(t, "cloned", d, a)
	c.Fail()
	agrees(t, "its clone has failed", d, a)
	c = d.Clone()
	d.Fail()
	agrees(t, "the disk has failed", c, a)
}

// P5.1, R4: writes behind a clone do not get into each other's pending writes, whatever room these have, nor does what
// damage takes away.
func TestCloneSharesNoPending(t *testing.T) {
	for n := range 20 {
		d, a := disk.New(), newAccount()
		for i := range n {
			write(t, d, i, sector(i))
			a.write(i, sector(i))
		}
		c, ca := d.Clone(), a.clone()
		write(t, d, 30, of(1))
		a.write(30, of(1))
		write(t, c, 31, of(2))
		ca.write(31, of(2))
		damage(t, c, 0, of(3))
		ca.damage(0, of(3))
		all := fates(-1, n+1)
		d.Crash(all...)
		a.crash(all)
		c.Crash(all...)
		ca.crash(all)
		agrees(t, "cloned", d, a)
		agrees(t, "clone", c, ca)
	}
}

// P5.1: many calls in many orders, held against the account of each disk.
func TestAsAccount(t *testing.T) {
	for seed := range 60 {
		x := uint32(seed)*2654435761 + 1
		next := func(n int) int {
			x = x*1664525 + 1013904223
			return int(x>>8) % n
		}
		disks, accounts := []*disk.Disk{disk.New()}, []*account{newAccount()}
		places := 1 + next(api.Size)
		for step := range 200 {
			i := next(len(disks))
			d, a := disks[i], accounts[i]
			at, b := api.Size-1-next(places), sector(1000*seed+step)
			switch k := next(20); {
			case k < 12:
				write(t, d, at, b)
				a.write(at, b)
			case k < 14:
				damage(t, d, at, b)
				a.damage(at, b)
			case k < 15:
				flush(t, d)
				a.flush()
			case k < 17:
				keep := fates(next(1<<16), next(12))
				d.Crash(keep...)
				a.crash(keep)
			case k < 18 && len(disks) < 3:
				disks, accounts = append(disks, d.Clone()), append(accounts, a.clone())
			}
			for i := range disks {
				agrees(t, "in many orders", disks[i], accounts[i])
			}
		}
	}
}

// R4: what is handed in is neither changed nor kept, and what lies behind its length is neither read nor written.
func TestHandedIn(t *testing.T) {
	for i, call := range []func(*disk.Disk, int, []byte) api.Errno{(*disk.Disk).Write, (*disk.Disk).Damage} {
		d := disk.New()
		all := mixed(96, 5)
		was := slices.Clone(all)
		if e := call(d, 9, all[:32]); e != api.OK {
			t.Error(i, e)
		}
		if e := call(d, 9, all[:31]); e != api.ErrArg {
			t.Error(i, e)
		}
		if e := call(d, 9, all[32:32]); e != api.ErrArg {
			t.Error(i, e)
		}
		if !bytes.Equal(all, was) {
			t.Error(i, "changed")
		}
		clear(all)
		stands(t, d, 9, was[:32])
		flush(t, d)
		d.Crash()
		stands(t, d, 9, was[:32])
	}
	d := disk.New()
	write(t, d, 0, of(1))
	write(t, d, 1, of(2))
	all := []bool{true, true, true, false}
	d.Crash(all[:1]...)
	if !slices.Equal(all, []bool{true, true, true, false}) {
		t.Error("keep changed", all)
	}
	stands(t, d, 0, of(1))
	stands(t, d, 1, of(0))
	b := of(7)
	write(t, d, 2, b)
	clear(b)
	d.Crash(true)
	stands(t, d, 2, of(7))
}

// R4: what Read hands out is new memory: to change it, or to write behind its length, changes nothing.
func TestHandedOut(t *testing.T) {
	d := disk.New()
	write(t, d, 0, of(1))
	write(t, d, 1, of(2))
	for range 3 {
		got, _ := d.Read(0)
		again, _ := d.Read(0)
		for i := range got {
			got[i] = 99
		}
		_ = append(got, of(98)...)
		if !bytes.Equal(again, of(1)) {
			t.Error("two answers share memory")
		}
		stands(t, d, 0, of(1))
		stands(t, d, 1, of(2))
		flush(t, d)
	}
	d.Crash()
	stands(t, d, 0, of(1))
	stands(t, d, 1, of(2))
	got, _ := d.Read(0)
	write(t, d, 0, of(3))
	if !bytes.Equal(got, of(1)) {
		t.Error("an answer changes behind its call")
	}
}

// R4: nil is as no keep at all.
func TestNilKeep(t *testing.T) {
	for _, keep := range [][]bool{nil, {}} {
		d := disk.New()
		write(t, d, 0, of(1))
		d.Crash(keep...)
		stands(t, d, 0, of(0))
		pends(t, d, 0)
	}
}
