// Package crc: sums of bytes, and sectors that are sealed by them.
package crc

import "wattle/api"

const (
	// turn is what a sum begins with, and what it is turned by at its end.
	turn = 0xFFFFFFFF
	// sealAt is where in a sector its seal stands: the four bytes behind its body.
	sealAt = api.Sector - 4
)

// nibbles: what four digits that leave at the low end put in at the high one. The digits of the
// polynomial 0x1EDC6F41 stand turned round, since bytes come from their lowest digit on.
var nibbles = [16]uint32{
	0x00000000, 0x105EC76F, 0x20BD8EDE, 0x30E349B1,
	0x417B1DBC, 0x5125DAD3, 0x61C69362, 0x7198540D,
	0x82F63B78, 0x92A8FC17, 0xA24BB5A6, 0xB21572C9,
	0xC38D26C4, 0xD3D3E1AB, 0xE330A81A, 0xF36E6F75,
}

// Sum is the CRC-32C of all parts, one behind the other.
func Sum(parts ...[]byte) uint32 {
	return feed(turn, parts...) ^ turn
}

// Seal sets b's last four bytes so that Right holds; false: b is no sector.
func Seal(b []byte, parts ...[]byte) bool {
	if len(b) != api.Sector {
		return false
	}
	// The sum is taken ahead of the first byte set: a part may share b's memory.
	x := sealOf(b, parts...)
	for i := range b[sealAt:] {
		b[sealAt+i] = sealByte(x, i)
	}
	return true
}

// Right tells whether b is a sector that is sealed with these parts.
func Right(b []byte, parts ...[]byte) bool {
	if len(b) != api.Sector {
		return false
	}
	x := sealOf(b, parts...)
	for i, got := range b[sealAt:] {
		if got != sealByte(x, i) {
			return false
		}
	}
	return true
}

// sealOf is the Sum of b's body and the parts.
func sealOf(b []byte, parts ...[]byte) uint32 {
	return feed(feed(turn, b[:sealAt]), parts...) ^ turn
}

// sealByte is byte i of the sum x, the greatest first.
func sealByte(x uint32, i int) byte {
	return byte(x >> (24 - 8*i))
}

// feed takes a sum that is not yet turned over further bytes.
func feed(x uint32, parts ...[]byte) uint32 {
	for _, part := range parts {
		for _, c := range part {
			x ^= uint32(c)
			x = x>>4 ^ nibbles[x&15]
			x = x>>4 ^ nibbles[x&15]
		}
	}
	return x
}
