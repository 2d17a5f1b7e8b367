// Package word is layer 1: words of 32 bits, each an int from 0 to 2^32 - 1.
// Every call takes any ints and looks at the lowest 32 bits of each alone.
package word

const (
	width   = 32
	highest = width - 1
	ones    = 1<<width - 1
)

// Of tells the lowest 32 bits of n, as a word.
func Of(n int) int { return int(uint32(n)) }

// signed tells the word in the kind whose highest bit is the sign.
func signed(w int) int32 { return int32(uint32(w)) }

// Signed tells the word as a number with a sign.
func Signed(w int) int { return int(signed(w)) }

// Add tells the sum, as a word.
func Add(a, b int) int { return int(uint32(a) + uint32(b)) }

// Sub tells the difference, as a word.
func Sub(a, b int) int { return int(uint32(a) - uint32(b)) }

// Mul tells the product, as a word.
func Mul(a, b int) int { return int(uint32(a) * uint32(b)) }

// Div tells the quotient of numbers without a sign; by 0 the word whose bits are all 1.
func Div(a, b int) int {
	divisor := uint32(b)
	if divisor == 0 {
		return ones
	}
	return int(uint32(a) / divisor)
}

// Rem tells what Div leaves over; by 0 all of a.
func Rem(a, b int) int {
	divisor := uint32(b)
	if divisor == 0 {
		return Of(a)
	}
	return int(uint32(a) % divisor)
}

// places tells by how many bits the shifts move: the lowest five bits of n,
// so that a negative or a great n shifts, too.
func places(n int) uint32 { return uint32(n) & highest }

// Left tells a shifted to the left.
func Left(a, n int) int { return int(uint32(a) << places(n)) }

// Right tells a shifted to the right, filled with 0.
func Right(a, n int) int { return int(uint32(a) >> places(n)) }

// Arith tells a shifted to the right, filled with its highest bit.
func Arith(a, n int) int { return int(uint32(signed(a) >> places(n))) }

// Less tells whether a is below b, as numbers with a sign.
func Less(a, b int) bool { return signed(a) < signed(b) }

// Below tells whether a is below b, as numbers without a sign.
func Below(a, b int) bool { return uint32(a) < uint32(b) }

// Bits tells the bits of w from high down to low, as a number; 0, if there are no such bits.
func Bits(w, high, low int) int {
	if low < 0 || high < low || high > highest {
		return 0
	}
	above := uint32(highest - high)
	return int(uint32(w) << above >> (above + uint32(low)))
}

// Extend tells the lowest n bits of w as a word, the highest of them being the sign.
func Extend(w, n int) int {
	if n < 1 {
		return 0
	}
	above := uint32(width - min(n, width))
	return int(uint32(int32(uint32(w)<<above) >> above))
}
