package val

import "math/bits"

// pattern is the numbers of a width whose bits out of free are bits.
type pattern struct {
	width int
	free  int
	bits  int
}

// span is numbers from low up to high, which is not below it.
type span struct {
	low  int
	high int
}

func (p pattern) top() int {
	return 1<<p.width - 1
}

func (p pattern) fixed() int {
	return p.top() &^ p.free
}

// from is the least of its numbers that is not below n, a number of the width.
func (p pattern) from(n int) (int, bool) {
	off := (n ^ p.bits) & p.fixed()
	// Above low n is as the pattern asks; low's highest bit is off.
	low := 1<<bits.Len(uint(off)) - 1
	if n&low <= p.bits&low {
		return n&^low&p.free | p.bits, true
	}
	// n is beyond all that stay as it is above low. One more there: the fixed
	// bits are filled, so that it is carried over them.
	full := n | low | p.fixed()
	if full == p.top() {
		return 0, false
	}
	return (full+1)&p.free | p.bits, true
}

// upTo is the greatest of its numbers that is not above n: all turned round,
// the least that is not below.
func (p pattern) upTo(n int) (int, bool) {
	turned := pattern{width: p.width, free: p.free, bits: p.fixed() &^ p.bits}
	m, there := turned.from(p.top() - n)
	if !there {
		return 0, false
	}
	return p.top() - m, true
}

// trim is what is left of a span between the first and the last of its numbers.
func (p pattern) trim(s span) (span, bool) {
	first, behind := p.from(s.low)
	last, ahead := p.upTo(s.high)
	if !behind || !ahead || first > last {
		return span{}, false
	}
	return span{first, last}, true
}

// rank is how many of its numbers are below n, which is one of them: n's free
// bits, moved together.
func (p pattern) rank(n int) int {
	if p.free&(p.free+1) == 0 {
		return n & p.free // they are together as they stand
	}
	rank, place := 0, 1
	for left := p.free; left != 0; left &= left - 1 {
		if lowest := left & -left; n&lowest != 0 {
			rank |= place
		}
		place <<= 1
	}
	return rank
}

// between is how many of its numbers lie behind a and ahead of b, both of them
// its own, over the end too.
func (p pattern) between(a int, b int) int {
	all := 1 << bits.OnesCount(uint(p.free))
	return (p.rank(b) - p.rank(a) - 1) & (all - 1)
}
