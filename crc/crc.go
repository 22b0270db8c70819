// Package crc is layer 2: cyclic sums. See shared/doc/02-crc.md.
package crc

// polynomial has its highest power at the lowest bit, as bits go out there.
const polynomial = 0xEDB88320

// begin is the state ahead of all bytes; put together with a state, it also turns each of its bits.
const begin = 1<<32 - 1

// sumSize is how many bytes a sum has.
const sumSize = 4

// More answers the state behind the bytes of b.
func More(state uint32, b []byte) uint32 {
	for _, x := range b {
		state = behind(state, x)
	}
	return state
}

// Of answers the sum of b.
func Of(b []byte) uint32 {
	return More(begin, b) ^ begin
}

// Seal answers b, and behind it its sum, the lowest byte first.
func Seal(b []byte) []byte {
	out := append(make([]byte, 0, len(b)+sumSize), b...)
	sum := Of(b)
	for range sumSize {
		out = append(out, byte(sum))
		sum >>= 8
	}
	return out
}

// Whole tells whether the last four bytes of b are the sum of those ahead.
func Whole(b []byte) bool {
	if len(b) < sumSize {
		return false
	}
	body, seal := b[:len(b)-sumSize], b[len(b)-sumSize:]
	return Of(body) == lowestFirst(seal)
}

func behind(state uint32, x byte) uint32 {
	state ^= uint32(x)
	for range 8 {
		// 0 less the lowest bit is all ones or all zeros: a mask, without a branch.
		mask := 0 - state&1
		state = state>>1 ^ polynomial&mask
	}
	return state
}

func lowestFirst(b []byte) uint32 {
	var n uint32
	for i, x := range b {
		n |= uint32(x) << (8 * i)
	}
	return n
}
