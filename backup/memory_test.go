package backup_test

import (
	"bytes"
	"slices"
	"testing"

	"wattle/api"
	"wattle/backup"
)

// R4: what is handed in is neither changed nor kept, nor is what lies behind its length.
func TestHandedIn(t *testing.T) {
	memory := make([]byte, 0, 40*api.Sector)
	for i := range 40 {
		memory = append(memory, mixed(i)...)
	}
	// sectors that lie one behind the other, with other bytes in between and behind
	data := [][]byte{memory[3:35], memory[35:67], memory[67:99:99], memory[64:96], memory[3:35], memory[1000:1001]}
	live := []bool{true, false, true, true, false, true}
	wasMemory, wasData, wasLive := slices.Clone(memory), slices.Clone(data), slices.Clone(live)
	b := newBench(t, 4)
	for size := range 6 {
		k := kept{7, 7, copyOf(data[:size])}
		is(t, "Put", backup.Put(b, live[:3], 7, 7, data[:size]...), api.OK)
		finds(t, "put", b, live[:3], k)
		b.Limit(1)
		refused(t, "cut", b, live[:3], kept{8, 8, data[:max(size, 1)]}, api.ErrDown)
		b.Crash()
	}
	is(t, "Put", backup.Put(b, live[:3], 8, 8, data...), api.ErrArg)
	is(t, "Put", backup.Put(b, live[:3], 65536, 8, data[:2]...), api.ErrArg)
	sameLists := slices.EqualFunc(data, wasData, func(x, y []byte) bool { return len(x) == len(y) && cap(x) == cap(y) && &x[0] == &y[0] })
	if !bytes.Equal(memory, wasMemory) || !sameLists || !slices.Equal(live, wasLive) {
		t.Error("changed", live)
	}
	k := kept{7, 7, copyOf(data[:5])}
	clear(memory)
	clear(data)
	clear(live)
	finds(t, "its own way", b, everyone(4), k)
	finds(t, "its own way", b, []bool{false, false, true}, k)
	findsNone(t, "not live", b, []bool{false, true, false, true}, 7, 7)
	for d := range 4 {
		for i, x := range sectorsOf(k) {
			if d%2 == 0 {
				stands(t, b, d, api.Backup+i, x)
			} else {
				stands(t, b, d, api.Backup+i, full(0))
			}
		}
	}
}

// R4: nil and the empty list are the same: of the live disks, and of the data.
func TestNilAndEmpty(t *testing.T) {
	b, c := newBench(t, 2), newBench(t, 2)
	is(t, "Put", backup.Put(b, everyone(2), 1, 1), api.OK)
	is(t, "Put", backup.Put(c, everyone(2), 1, 1, [][]byte{}...), api.OK)
	same(t, "no data", b, c)
	is(t, "Put", backup.Put(b, nil, 2, 2, full(1)), api.OK)
	is(t, "Put", backup.Put(b, []bool{}, 2, 2, full(1)), api.OK)
	same(t, "none is live", b, c)
	finds(t, "no data", b, everyone(2), kept{1, 1, nil})
}

// R4: the lists handed out are new memory: to change one, or to write behind its length, changes nothing.
func TestHandedOut(t *testing.T) {
	b, k := newBench(t, 3), kept{5, 5, dataOf(5, 4)}
	put(t, b, everyone(3), k)
	one, _ := backup.Get(b, everyone(3), 5, 5)
	two, _ := backup.Get(b, everyone(3), 5, 5)
	for i := range one {
		_ = append(one[i], bytes.Repeat([]byte{0xEE}, 3*api.Sector)...)
	}
	_ = append(one[:1], full(0xEE))
	if !bytes.Equal(one[0], k.data[0]) || !bytes.Equal(one[2], k.data[2]) || !bytes.Equal(one[3], k.data[3]) {
		t.Error("one sector lies behind another")
	}
	for i := range one {
		clear(one[i])
	}
	clear(one)
	finds(t, "asked again", b, everyone(3), k)
	for d := range 3 {
		for i, x := range sectorsOf(k) {
			stands(t, b, d, api.Backup+i, x)
		}
	}
	put(t, b, everyone(3), kept{5, 5, dataOf(6, 4)})
	is(t, "Fail", b.Fail(0), api.OK)
	if !slices.EqualFunc(two, k.data, bytes.Equal) {
		t.Error("an answer changes behind its call")
	}
	third, _ := backup.Get(b, everyone(3), 5, 5)
	third[0][0] ^= 1
	finds(t, "changed", b, everyone(3), kept{5, 5, dataOf(6, 4)})
}

// R4: equal sectors are handed out in memory of their own each.
func TestEqualSectors(t *testing.T) {
	b, x := newBench(t, 2), mixed(3)
	put(t, b, everyone(2), kept{5, 5, [][]byte{x, x, x}})
	got, ok := backup.Get(b, everyone(2), 5, 5)
	if !ok || len(got) != 3 {
		t.Fatal(brief(got), ok)
	}
	clear(got[1])
	if !bytes.Equal(got[0], x) || !bytes.Equal(got[2], x) || !bytes.Equal(x, mixed(3)) {
		t.Error("they share memory")
	}
}

// R5: two benches, and a bench and its clone, have nothing to do with each other; the same again is answered the same.
func TestEachBenchByItself(t *testing.T) {
	first, second, third := kept{1, 1, dataOf(1, 1)}, kept{1, 1, dataOf(2, 2)}, kept{1, 1, dataOf(3, 3)}
	b, c := newBench(t, 2), newBench(t, 5)
	put(t, b, everyone(2), first)
	findsNone(t, "another bench", c, everyone(5), 1, 1)
	put(t, c, []bool{false, true}, second)
	d := b.Clone()
	put(t, d, []bool{true}, third)
	for range 3 {
		finds(t, "one", b, everyone(2), first)
		finds(t, "another", c, everyone(5), second)
		finds(t, "a clone", d, everyone(2), third)
		finds(t, "a clone", d, []bool{false, true}, first)
	}
}
