package maths

import "math/bits"

// pattern is what the bits of some views are: free, or those of bits (0 where
// they are free). A view below 0 has ones without end ahead of its own bits, and
// so has its pattern: the views' arithmetic is the patterns', and of what comes
// out the bits of the width count alone.
type pattern struct {
	free int
	bits int
}

// except is of n's bits, but for those that are free.
func except(n int, free int) pattern {
	return pattern{free: free, bits: n &^ free}
}

// anything is of all numbers.
func anything() pattern {
	return except(0, -1)
}

// plus knows the bits to which a carry comes always or never: there the sum with
// all free bits 0 and that with all of them 1 are alike.
func (p pattern) plus(q pattern) pattern {
	none := p.bits + q.bits
	all := none + p.free + q.free
	return except(none, p.free|q.free|(none^all))
}

// minus is likewise, of the differences that borrow least and most.
func (p pattern) minus(q pattern) pattern {
	least := p.bits + p.free - q.bits
	most := p.bits - q.bits - q.free
	return except(p.bits-q.bits, p.free|q.free|(least^most))
}

// times knows the lowest bits alone: those below the first one to which a free
// bit comes, moved up by the zeros at the other one's end.
func (p pattern) times(q pattern) pattern {
	known := min(p.settled()+q.zeros(), q.settled()+p.zeros())
	return except(p.bits*q.bits, -1<<known)
}

func (p pattern) and(q pattern) pattern {
	ones := p.bits & q.bits
	return pattern{free: (p.free | p.bits) & (q.free | q.bits) &^ ones, bits: ones}
}

func (p pattern) or(q pattern) pattern {
	ones := p.bits | q.bits
	return pattern{free: (p.free | q.free) &^ ones, bits: ones}
}

func (p pattern) xor(q pattern) pattern {
	return except(p.bits^q.bits, p.free|q.free)
}

func (p pattern) not() pattern {
	return except(^p.bits, p.free)
}

func (p pattern) up(n int) pattern {
	return pattern{free: p.free << n, bits: p.bits << n}
}

func (p pattern) down(n int) pattern {
	return pattern{free: p.free >> n, bits: p.bits >> n}
}

// lowest knows no more than the lowest n bits.
func (p pattern) lowest(n int) pattern {
	return except(p.bits, p.free|-1<<n)
}

// settled is how many of the lowest bits are not free.
func (p pattern) settled() int {
	return bits.TrailingZeros(uint(p.free))
}

// zeros is how many of the lowest bits are 0.
func (p pattern) zeros() int {
	return bits.TrailingZeros(uint(p.free | p.bits))
}
