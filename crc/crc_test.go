package crc_test

import (
	"bytes"
	"hash/crc32"
	"slices"
	"testing"

	"wattle/api"
	"wattle/crc"
)

const nine = "123456789"

// known is the library's CRC-32C: another's work to hold ours against.
func known(b []byte) uint32 {
	return crc32.Checksum(b, crc32.MakeTable(crc32.Castagnoli))
}

// mixed is n bytes, most of them unlike their neighbours.
func mixed(n int) []byte {
	b := make([]byte, n)
	x := uint32(n)
	for i := range b {
		x = x*1664525 + 1013904223
		b[i] = byte(x >> 24)
	}
	return b
}

// sector is a body of mixed bytes, not sealed.
func sector() []byte {
	return mixed(api.Sector)
}

// within is b with room behind its length; all is b and that room.
func within(b []byte) (short, all []byte) {
	all = append(slices.Clone(b), mixed(40)...)
	return all[:len(b)], all
}

// P1.1: the chapter's example, and sums that are known of old.
func TestSumKnown(t *testing.T) {
	rising, falling := make([]byte, 32), make([]byte, 32)
	for i := range rising {
		rising[i], falling[31-i] = byte(i), byte(i)
	}
	for _, r := range []struct {
		name string
		b    []byte
		want uint32
	}{
		{"nine digits", []byte(nine), 0xE3069283},
		{"a", []byte("a"), 0xC1D04330},
		{"one zero", []byte{0}, 0x527D5351},
		{"zeros", make([]byte, 32), 0x8A9136AA},
		{"ones", bytes.Repeat([]byte{255}, 32), 0x62A8AB43},
		{"rising", rising, 0x46DD794E},
		{"falling", falling, 0x113FDB5C},
	} {
		if got := crc.Sum(r.b); got != r.want {
			t.Errorf("%s: %08X, not %08X", r.name, got, r.want)
		}
	}
}

// P1.1: each single byte (so each word of the table), and many lengths.
func TestSumAsKnown(t *testing.T) {
	for i := range 256 {
		if b := []byte{byte(i)}; crc.Sum(b) != known(b) {
			t.Errorf("byte %d: %08X, not %08X", i, crc.Sum(b), known(b))
		}
	}
	for n := range 300 {
		if b := mixed(n); crc.Sum(b) != known(b) {
			t.Errorf("%d bytes: %08X, not %08X", n, crc.Sum(b), known(b))
		}
	}
	if b := mixed(1 << 20); crc.Sum(b) != known(b) {
		t.Error("a long part")
	}
}

// P1.1: no parts, and parts without bytes (R4: nil and empty are the same).
func TestSumOfNothing(t *testing.T) {
	for i, parts := range [][][]byte{nil, {}, {nil}, {{}}, {nil, {}, nil}, make([][]byte, 1000)} {
		if got := crc.Sum(parts...); got != 0 {
			t.Errorf("%d: %08X", i, got)
		}
	}
}

// P1.1: one behind the other: the cuts are not to be told from the sum, the order is.
func TestSumOfParts(t *testing.T) {
	b := mixed(41)
	want := known(b)
	for i := range len(b) + 1 {
		for j := i; j <= len(b); j++ {
			if got := crc.Sum(b[:i], nil, b[i:j], []byte{}, b[j:]); got != want {
				t.Errorf("cut at %d, %d: %08X, not %08X", i, j, got, want)
			}
		}
	}
	single := slices.Collect(slices.Chunk(b, 1))
	if got := crc.Sum(single...); got != want {
		t.Errorf("byte by byte: %08X", got)
	}
	if crc.Sum(b[:20], b[20:]) == crc.Sum(b[20:], b[:20]) {
		t.Error("the order is lost")
	}
	if crc.Sum(b, b) != known(append(slices.Clone(b), b...)) {
		t.Error("one part twice")
	}
}

// P1.1: Seal sets the Sum of the first 28 bytes and the parts, the greatest byte first, and no other byte.
func TestSealSets(t *testing.T) {
	for i, parts := range [][][]byte{nil, {nil}, {[]byte(nine)}, {mixed(32), {}, mixed(7)}, {mixed(32), mixed(32), mixed(32)}} {
		b := sector()
		body := slices.Clone(b[:28])
		if !crc.Seal(b, parts...) {
			t.Errorf("%d: refused", i)
		}
		x := known(append(slices.Clone(body), bytes.Join(parts, nil)...))
		if want := []byte{byte(x >> 24), byte(x >> 16), byte(x >> 8), byte(x)}; !bytes.Equal(b[28:], want) {
			t.Errorf("%d: seal %x, not %x", i, b[28:], want)
		}
		if !bytes.Equal(b[:28], body) {
			t.Errorf("%d: the body has changed", i)
		}
		if !crc.Right(b, parts...) {
			t.Errorf("%d: not Right", i)
		}
	}
}

// P1.1: known bytes, so that Seal and Right are not held against each other alone.
func TestSealKnown(t *testing.T) {
	b := append([]byte("one sector of the wattle ..."), 0, 0, 0, 0)
	x := known(append(slices.Clone(b[:28]), nine...))
	if crc.Right(b, []byte(nine)) {
		t.Error("Right of no seal")
	}
	b[28], b[29], b[30], b[31] = byte(x>>24), byte(x>>16), byte(x>>8), byte(x)
	if !crc.Right(b, []byte(nine)) {
		t.Error("not Right of its seal")
	}
	slices.Reverse(b[28:])
	if crc.Right(b, []byte(nine)) {
		t.Error("Right of a seal with its smallest byte first")
	}
}

// What stood in the last four bytes ahead of Seal does not count.
func TestSealAnew(t *testing.T) {
	a, b := sector(), sector()
	copy(b[28:], []byte{1, 2, 3, 4})
	crc.Seal(a, []byte(nine))
	crc.Seal(b, []byte(nine))
	c := slices.Clone(a)
	crc.Seal(c, []byte(nine))
	if !bytes.Equal(a, b) || !bytes.Equal(a, c) {
		t.Errorf("%x, %x, %x", a[28:], b[28:], c[28:])
	}
}

// P1.1: Right sees each digit of the sector and of the parts, but no cut.
func TestRightSees(t *testing.T) {
	b, p, q := sector(), mixed(5), mixed(9)
	crc.Seal(b, p, q)
	for _, l := range [][]byte{b, p, q} {
		for i := range l {
			for d := range 8 {
				l[i] ^= 1 << d
				if crc.Right(b, p, q) {
					t.Errorf("byte %d of %d, digit %d", i, len(l), d)
				}
				l[i] ^= 1 << d
			}
		}
	}
	whole := append(slices.Clone(p), q...)
	if !crc.Right(b, p, q) || !crc.Right(b, whole) || !crc.Right(b, nil, whole[:1], []byte{}, whole[1:]) {
		t.Error("parts cut in other ways")
	}
	for i, parts := range [][][]byte{nil, {p}, {q}, {q, p}, {p, q, {0}}, {p, q[:8]}} {
		if crc.Right(b, parts...) {
			t.Errorf("%d: Right with other parts", i)
		}
	}
}

// P1.1, R2: a b that is no sector: false, and it stays as it is.
func TestNoSector(t *testing.T) {
	for _, n := range []int{0, 1, 3, 4, 27, 28, 31, 33, 36, 64, 1000} {
		b := mixed(n)
		was := slices.Clone(b)
		if crc.Seal(b) || crc.Seal(b, []byte(nine)) || crc.Right(b) || crc.Right(b, []byte(nine)) {
			t.Errorf("%d bytes are a sector", n)
		}
		if !bytes.Equal(b, was) {
			t.Errorf("%d bytes have changed", n)
		}
	}
	if crc.Seal(nil) || crc.Right(nil) || crc.Seal(nil, nil) || crc.Right(nil, nil) {
		t.Error("nil is a sector")
	}
}

// P1.1, R4: room behind 31 bytes makes no sector of them; more room than 32 does not unmake one.
func TestSectorByLength(t *testing.T) {
	sealed := sector()
	crc.Seal(sealed)
	short, all := within(sealed[:31])
	all[31] = sealed[31]
	was := slices.Clone(all)
	if crc.Right(short) || crc.Seal(short) || !bytes.Equal(all, was) {
		t.Error("31 bytes, and one behind them")
	}
	if !crc.Right(all[:32]) {
		t.Error("32 bytes, and room behind them")
	}
}

// R4: what lies behind a length is neither read nor written, of b, of a part, of the list of parts.
func TestBehindLength(t *testing.T) {
	b, allB := within(sector())
	p, allP := within(mixed(9))
	list := [][]byte{p, p, mixed(3), mixed(4)}
	parts := list[:2]
	if crc.Sum(parts...) != known(append(mixed(9), mixed(9)...)) {
		t.Error("Sum reads behind a part")
	}
	wasB, wasP := slices.Clone(allB), slices.Clone(allP)
	if !crc.Seal(b, parts...) || !crc.Right(b, parts...) {
		t.Error("not sealed")
	}
	if !bytes.Equal(allB[:28], wasB[:28]) || !bytes.Equal(allB[32:], wasB[32:]) {
		t.Error("Seal writes beside the seal")
	}
	if !bytes.Equal(allP, wasP) {
		t.Error("a part has changed")
	}
	if &list[0][0] != &p[0] || &list[1][0] != &p[0] || !bytes.Equal(list[2], mixed(3)) || !bytes.Equal(list[3], mixed(4)) {
		t.Error("the list of parts has changed")
	}
	clear(allB[32:])
	clear(allP[9:])
	if !crc.Right(b, parts...) {
		t.Error("Right reads behind a length")
	}
}

// R4: Sum and Right change nothing that they are handed, whatever they answer.
func TestUnchanged(t *testing.T) {
	good, bad, p := sector(), sector(), mixed(9)
	crc.Seal(good, p)
	for _, b := range [][]byte{good, bad} {
		wasB, wasP := slices.Clone(b), slices.Clone(p)
		crc.Right(b, p)
		crc.Sum(b, p)
		if !bytes.Equal(b, wasB) || !bytes.Equal(p, wasP) {
			t.Error("changed")
		}
	}
}

// R4, R5: nothing is kept: a call answers by its arguments as they are now.
func TestNothingKept(t *testing.T) {
	b, p := sector(), mixed(9)
	first := crc.Sum(p)
	crc.Seal(b, p)
	p[4]++
	if crc.Sum(p) != known(p) || crc.Right(b, p) {
		t.Error("the part as it was")
	}
	p[4]--
	if crc.Sum(p) != first || !crc.Right(b, p) {
		t.Error("another answer to the same")
	}
}

// A part may be the sector itself: its seal is of the bytes as they were handed in.
func TestSealOfItself(t *testing.T) {
	b := sector()
	was := slices.Clone(b)
	if !crc.Seal(b, b, b[26:]) || !crc.Right(b, was, was[26:]) {
		t.Error("sealed with bytes that were set meanwhile")
	}
}
