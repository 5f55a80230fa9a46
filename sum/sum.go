// Package sum: check sums: see doc/01-sum.md.
package sum

// Sum adds the words of s, two bytes each, the higher one first.
func Sum(s string) uint16 {
	// 64 bits hold the words of every text that can be handed in, so that
	// what goes beyond 16 bits need only be added in at the end.
	var total uint64
	for i := 0; i < len(s); i++ {
		if i%2 == 0 {
			total += uint64(s[i]) << 8
		} else {
			total += uint64(s[i])
		}
	}
	return fold(total)
}

// Check is the Sum of s with all bits turned.
func Check(s string) uint16 {
	return ^Sum(s)
}

// Join is the Sum of two texts, one behind the other, of their Sums a and b.
func Join(a uint16, odd bool, b uint16) uint16 {
	if odd {
		// Behind an odd number of bytes each byte of the second text stands
		// in the other half of its word.
		b = b<<8 | b>>8
	}
	return fold(uint64(a) + uint64(b))
}

// Update is the Check of a text of which one word is now instead of was.
//
// The chapter's rule stands as it is told: for a text that is zeros alone from
// now on it answers 0, where Check would answer 0xffff.
func Update(check, was, now uint16) uint16 {
	return ^fold(uint64(^check) + uint64(^was) + uint64(now))
}

// fold adds what goes beyond 16 bits to the lowest 16; that may go beyond
// anew, therefore the loop.
func fold(total uint64) uint16 {
	for total > 0xffff {
		total = total>>16 + total&0xffff
	}
	return uint16(total)
}
