package stream

import "bytes"

// polynomial is that of CRC-32, its highest power in the lowest bit.
const polynomial = 0xedb88320

// step is how many bits the sum takes at a time: a table for whole bytes would be long.
const step = 4

// sealLength is how many bytes the check sum takes.
const sealLength = 4

// remainders tells for each step's bits what they do to the sum that is left when they have gone out of it.
var remainders [1 << step]uint32

func init() {
	for i := range remainders {
		left := uint32(i)
		for range step {
			left = left>>1 ^ left&1*polynomial
		}
		remainders[i] = left
	}
}

// seal gives the check sum of bytes, its highest byte first.
func seal(b []byte) []byte {
	sum := ^uint32(0)
	for _, one := range b {
		sum ^= uint32(one)
		for range 8 / step {
			sum = sum>>step ^ remainders[sum%(1<<step)]
		}
	}
	sum = ^sum
	return []byte{byte(sum >> 24), byte(sum >> 16), byte(sum >> 8), byte(sum)}
}

// isSealed asks whether bytes end with the check sum of those ahead of it.
func isSealed(b []byte) bool {
	ahead := len(b) - sealLength
	return ahead >= 0 && bytes.Equal(seal(b[:ahead]), b[ahead:])
}
