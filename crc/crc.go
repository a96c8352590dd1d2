// Package crc is layer 1: CRC-32 of bytes. See shared/doc/01-crc.md.
package crc

// poly is the polynomial, its lowest bit first.
const poly uint32 = 0xEDB88320

// size is how many bytes a sum takes.
const size = 4

// Sum tells CRC-32 of the bytes.
func Sum(b []byte) uint32 { return More(0, b) }

// More tells CRC-32 of the bytes whose sum that is, and b behind them.
func More(sum uint32, b []byte) uint32 {
	if len(b) == 0 {
		return sum
	}
	t := table()
	reg := ^sum
	for _, x := range b {
		reg = t[byte(reg)^x] ^ reg>>8
	}
	return ^reg
}

// Append tells the bytes and their sum behind them, in memory of its own.
func Append(b []byte) []byte {
	n := len(b)
	end := ending(b)
	// The third index leaves no room behind b, so that append can't write into what is there.
	return append(b[:n:n], end[:]...)
}

// Ends tells whether the last four bytes are the sum of those ahead of them.
func Ends(b []byte) bool {
	n := len(b) - size
	if n < 0 {
		return false
	}
	return ending(b[:n:n]) == [size]byte(b[n:])
}

// ending tells the sum of the bytes as Append lays it, its lowest byte first.
func ending(b []byte) [size]byte {
	s := Sum(b)
	return [size]byte{byte(s), byte(s >> 8), byte(s >> 16), byte(s >> 24)}
}

// table tells what eight steps of the register make of each lowest byte.
func table() [256]uint32 {
	var t [256]uint32
	// Steps of a xor are the xor of the steps: each bit's register is laid over all that the bits ahead of it made.
	fill := func(bit int, reg uint32) {
		for i := 0; i < len(t); i += 2 * bit {
			t[i+bit] = t[i] ^ reg
		}
	}
	reg := uint32(1)
	for bit := 128; bit > 0; bit /= 2 {
		reg = step(reg)
		fill(bit, reg)
	}
	return t
}

// step tells the register shifted down by one, xor the polynomial, if the bit that fell out was one.
func step(reg uint32) uint32 {
	if reg&1 == 1 {
		return reg>>1 ^ poly
	}
	return reg >> 1
}
