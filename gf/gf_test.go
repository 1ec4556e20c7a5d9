package gf_test

import (
	"math"
	"testing"

	"wattle/gf"
)

// known is a times b by the school's way: the whole product without carries, then what is left of it by 0x11D.
func known(a, b int) byte {
	x := 0
	for i := range 8 {
		if a>>i&1 == 1 {
			x ^= b << i
		}
	}
	for i := 14; i >= 8; i-- {
		if x>>i&1 == 1 {
			x ^= 0x11D << (i - 8)
		}
	}
	return byte(x)
}

// knownPow is 2 to the n by n products, n from 0 on.
func knownPow(n int) byte {
	x := byte(1)
	for range n {
		x = known(int(x), 2)
	}
	return x
}

// P2.1: the chapter's example, and products reckoned by hand.
func TestMulKnown(t *testing.T) {
	for _, r := range []struct{ a, b, want byte }{
		{128, 2, 29}, {2, 128, 29}, {3, 3, 5}, {3, 7, 9}, {16, 16, 29}, {255, 2, 0xE3}, {4, 128, 58}, {0x80, 0x80, 0x13}, {142, 2, 1},
	} {
		if got := gf.Mul(r.a, r.b); got != r.want {
			t.Errorf("%d times %d: %d, not %d", r.a, r.b, got, r.want)
		}
	}
}

// P2.1: all products, and so both ways round.
func TestMulAll(t *testing.T) {
	for a := range 256 {
		for b := range 256 {
			if got, want := gf.Mul(byte(a), byte(b)), known(a, b); got != want {
				t.Fatalf("%d times %d: %d, not %d", a, b, got, want)
			}
			if gf.Mul(byte(a), byte(b)) != gf.Mul(byte(b), byte(a)) {
				t.Fatalf("%d times %d is not %d times %d", a, b, b, a)
			}
		}
	}
}

// P2.1, the edges: 0 on either side, 1 on either side.
func TestMulZeroOne(t *testing.T) {
	for a := range 256 {
		x := byte(a)
		if gf.Mul(x, 0) != 0 || gf.Mul(0, x) != 0 {
			t.Errorf("%d and 0: %d, %d", a, gf.Mul(x, 0), gf.Mul(0, x))
		}
		if gf.Mul(x, 1) != x || gf.Mul(1, x) != x {
			t.Errorf("%d and 1: %d, %d", a, gf.Mul(x, 1), gf.Mul(1, x))
		}
	}
}

// P2.1: it is a field: products of three in either order, products over sums (exclusive or).
func TestFieldLaws(t *testing.T) {
	for a := range 256 {
		for b := range 256 {
			x, y := byte(a), byte(b)
			for _, z := range []byte{0, 1, 2, 3, 77, 128, 142, 254, 255} {
				if gf.Mul(gf.Mul(x, y), z) != gf.Mul(x, gf.Mul(y, z)) {
					t.Fatalf("%d, %d, %d: order of products", x, y, z)
				}
				if gf.Mul(x^y, z) != gf.Mul(x, z)^gf.Mul(y, z) {
					t.Fatalf("%d, %d, %d: product over a sum", x, y, z)
				}
			}
		}
	}
}

// P2.1: the inverse of each byte gives 1 with it, and is its own way back.
func TestInv(t *testing.T) {
	for a, want := range map[byte]byte{1: 1, 2: 142, 142: 2, 4: 71} {
		if got := gf.Inv(a); got != want {
			t.Errorf("Inv(%d): %d, not %d", a, got, want)
		}
	}
	for a := 1; a < 256; a++ {
		i := gf.Inv(byte(a))
		if known(a, int(i)) != 1 {
			t.Errorf("%d times its inverse %d: %d", a, i, known(a, int(i)))
		}
		if gf.Inv(i) != byte(a) {
			t.Errorf("Inv of Inv(%d): %d", a, gf.Inv(i))
		}
	}
}

// P2.1, wrong inputs: 0 has no inverse, nothing has a quotient by 0, 0 has no log.
func TestOfZero(t *testing.T) {
	if got := gf.Inv(0); got != 0 {
		t.Errorf("Inv(0): %d", got)
	}
	if got := gf.Log(0); got != -1 {
		t.Errorf("Log(0): %d", got)
	}
	for a := range 256 {
		if got := gf.Div(byte(a), 0); got != 0 {
			t.Errorf("Div(%d, 0): %d", a, got)
		}
	}
}

// P2.1: each quotient gives back what it was made of, the byte above and not the one below.
func TestDiv(t *testing.T) {
	if gf.Div(29, 128) != 2 || gf.Div(29, 2) != 128 || gf.Div(1, 2) != 142 || gf.Div(2, 1) != 2 {
		t.Errorf("%d, %d, %d, %d", gf.Div(29, 128), gf.Div(29, 2), gf.Div(1, 2), gf.Div(2, 1))
	}
	for a := range 256 {
		for b := 1; b < 256; b++ {
			d := gf.Div(byte(a), byte(b))
			if known(int(d), b) != byte(a) {
				t.Fatalf("Div(%d, %d): %d", a, b, d)
			}
			if got := gf.Div(known(a, b), byte(b)); got != byte(a) {
				t.Fatalf("%d times %d, by %d: %d", a, b, b, got)
			}
		}
	}
	for b := range 256 {
		if gf.Div(0, byte(b)) != 0 || gf.Div(byte(b), 1) != byte(b) || gf.Div(1, byte(b)) != gf.Inv(byte(b)) {
			t.Errorf("0 by %d, %d by 1, 1 by %d", b, b, b)
		}
	}
}

// P2.1: powers that are known, and each power of one round.
func TestPow(t *testing.T) {
	for n, want := range map[int]byte{0: 1, 1: 2, 7: 128, 8: 29, 9: 58, 10: 116, 11: 232, 12: 205, 254: 142} {
		if got := gf.Pow(n); got != want {
			t.Errorf("Pow(%d): %d, not %d", n, got, want)
		}
	}
	for n := range 255 {
		if got, want := gf.Pow(n), knownPow(n); got != want {
			t.Errorf("Pow(%d): %d, not %d", n, got, want)
		}
	}
}

// P2.1, the edges: n is taken modulo 255, below 0 and above 254 as well.
func TestPowModulo(t *testing.T) {
	for n := -600; n <= 600; n++ {
		if got, want := gf.Pow(n), knownPow((n+255*3)%255); got != want {
			t.Errorf("Pow(%d): %d, not %d", n, got, want)
		}
		if got := gf.Mul(gf.Pow(n), gf.Pow(-n)); got != 1 {
			t.Errorf("Pow(%d) times Pow(%d): %d", n, -n, got)
		}
	}
	for n, want := range map[int]byte{-1: 142, -254: 2, -255: 1, -256: 142, 255: 1, 256: 2, 510: 1} {
		if got := gf.Pow(n); got != want {
			t.Errorf("Pow(%d): %d, not %d", n, got, want)
		}
	}
}

// P2.1, R1, R6: the greatest and the least numbers there are.
func TestPowGreat(t *testing.T) {
	// What 2 to a power leaves by 255 hangs on the power modulo 8, since 256 leaves 1.
	for n, want := range map[int]byte{
		1 << 8:             knownPow(1),
		1<<31 - 1:          knownPow(127),
		1 << 31:            knownPow(128),
		-(1 << 31):         knownPow(255 - 128),
		math.MaxInt64:      knownPow(127),
		math.MaxInt64 - 1:  knownPow(126),
		math.MinInt64:      knownPow(255 - 128),
		math.MinInt64 + 1:  knownPow(255 - 127),
		255 * (1 << 50):    1,
		-255 * (1 << 50):   1,
		-255*(1<<50) - 1:   142,
		255*(1<<50) + 8:    29,
		-(255*(1<<50) - 8): 29,
	} {
		if got := gf.Pow(n); got != want {
			t.Errorf("Pow(%d): %d, not %d", n, got, want)
		}
	}
}

// P2.1: the log of each byte but 0 is from 0 to 254, the byte is its power, and no two share one.
func TestLog(t *testing.T) {
	for a, want := range map[byte]int{1: 0, 2: 1, 3: 25, 128: 7, 29: 8, 142: 254} {
		if got := gf.Log(a); got != want {
			t.Errorf("Log(%d): %d, not %d", a, got, want)
		}
	}
	var seen [255]bool
	for a := 1; a < 256; a++ {
		n := gf.Log(byte(a))
		if n < 0 || n > 254 || seen[n] {
			t.Fatalf("Log(%d): %d", a, n)
		}
		seen[n] = true
		if knownPow(n) != byte(a) {
			t.Errorf("Log(%d): %d, of which %d is the power", a, n, knownPow(n))
		}
	}
	for n := range 255 {
		if got := gf.Log(knownPow(n)); got != n {
			t.Errorf("Log of power %d: %d", n, got)
		}
	}
}
