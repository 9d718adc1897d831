// Package sum is layer 1: see shared/doc/01-sum.md.
package sum

// A sum's lowest bit stands for the highest power, so the polynomial is written with its bits reversed.
const polynomial = 0xEDB88320

// Of: the check sum of parts, one behind the other.
func Of(parts ...[]byte) uint32 {
	rest := ^uint32(0)
	for _, part := range parts {
		for _, b := range part {
			rest = divide(rest, b)
		}
	}
	return ^rest
}

// divide goes bit by bit: the usual table of 256 words is too long to stand at package level.
func divide(rest uint32, b byte) uint32 {
	rest ^= uint32(b)
	for range 8 {
		odd := rest&1 == 1
		rest >>= 1
		if odd {
			rest ^= polynomial
		}
	}
	return rest
}
