package frame

// polynomial: CRC-32's, reflected.
const polynomial uint32 = 0xedb88320

// first: what a sum begins with.
const first uint32 = 0xffffffff

// Sum gives b's CRC-32.
func Sum(b []byte) uint32 {
	return ^goOn(first, b)
}

// sumOf gives the Sum of length and payload, between which a frame has the sum
// itself.
func sumOf(length, payload []byte) uint32 {
	return ^goOn(goOn(first, length), payload)
}

// goOn takes a sum that isn't turned yet through b.
func goOn(sum uint32, b []byte) uint32 {
	for _, x := range b {
		sum = shiftByte(sum ^ uint32(x))
	}
	return sum
}

// shiftByte shifts the lowest eight bits out at once, as sums of great frames
// take long bit by bit. Bit i is out at shift i+1: it leaves the polynomial,
// which what is left of the eight shifts on. The polynomial's lowest bit is
// bit 5: six shifts and more take that out too, and it leaves another one.
func shiftByte(sum uint32) uint32 {
	return sum>>8 ^
		polynomial&spread(sum, 7) ^
		polynomial>>1&spread(sum, 6) ^
		polynomial>>2&spread(sum, 5) ^
		polynomial>>3&spread(sum, 4) ^
		polynomial>>4&spread(sum, 3) ^
		polynomial>>5&spread(sum, 2) ^
		(polynomial>>6^polynomial)&spread(sum, 1) ^
		(polynomial>>7^polynomial>>1)&spread(sum, 0)
}

// spread gives bit i in all places: a signed number that is shifted to the
// right is filled up with its sign.
func spread(bits uint32, i int) uint32 {
	return uint32(int32(bits<<(31-i)) >> 31)
}
