// Package crc is layer 1, a checksum of texts: see shared/doc/01-crc.md.
package crc

// polynomial has its bits turned round, as the sum is shifted to the right.
const polynomial = 0x82f63b78

// Sum tells the checksum of s.
func Sum(s string) uint32 { return Add(0, s) }

// Add tells the checksum of a text whose sum is given, with s behind it.
func Add(sum uint32, s string) uint32 {
	sum = ^sum
	// By place, not by range over s: that would go by runes.
	for i := range len(s) {
		sum = shiftByte(sum ^ uint32(s[i]))
	}
	return ^sum
}

// Check tells whether sum is the checksum of s.
func Check(s string, sum uint32) bool { return Sum(s) == sum }

// shiftByte shifts eight bits out of sum, one by one.
func shiftByte(sum uint32) uint32 {
	left := 8
next:
	// -(sum & 1) is all ones if the bit that falls out is 1, else 0: no branch
	// that hangs on the data, as long texts are summed bit by bit.
	sum = sum>>1 ^ polynomial&-(sum&1)
	left--
	if left > 0 {
		goto next
	}
	return sum
}
