package maths

import (
	"cmp"
	"math/bits"
	"slices"
	"sync"

	"cellar/api"
	"cellar/val"
)

// few is how many members a set may have that is taken member by member.
const few = 4

// operand is a set of numbers of a kind that a call was handed.
type operand struct {
	numbers
	set api.Val

	cut sync.Once // not every operator asks for the pieces; most ask again and again
	all []piece
}

// piece is members of a set that stand together: those with views from low up to
// high, both of them members. All are below 0, or 0 alone, or above it, so that
// the numbers rise as their views do.
type piece struct {
	low  int
	high int
	pattern
}

func take(kind int, v api.Val) (*operand, api.Errno) {
	k, e := numbersOf(kind)
	if e != api.OK {
		return nil, e
	}
	if e := val.Check(v); e != api.OK {
		return nil, e
	}
	if v.Width != k.width {
		return nil, api.ErrForm
	}
	return &operand{numbers: k, set: v}, api.OK
}

func (x *operand) empty() bool {
	is, _ := val.Empty(x.set)
	return is
}

func (x *operand) has(n int) bool {
	is, _ := val.Has(x.set, n)
	return is
}

// just is whether n is a member, and no other one.
func (x *operand) just(n int) bool {
	is, m, _ := val.Single(x.set)
	return is && m == n
}

// pieces are all members, each in one piece.
func (x *operand) pieces() []piece {
	x.cut.Do(x.makePieces)
	return x.all
}

func (x *operand) makePieces() {
	if l := x.members(0, x.top(), few+1); len(l) <= few {
		x.all = x.oneByOne(l)
		return
	}
	cuts := x.cuts()
	for i, low := range cuts {
		high := x.number(cuts[(i+1)%len(cuts)] - 1)
		if l := x.members(low, high, 1); len(l) > 0 {
			x.all = append(x.all, x.piece(l[0], x.last(high)))
		}
	}
}

// cuts are where pieces may begin: where the sign turns, and at Low, ahead of which
// nothing may lie. They go from Low on and round, so that what is told grows at its
// ends, and what the set leaves out can stay left out.
func (x *operand) cuts() []int {
	behindLow := func(n int) int { return x.number(n - x.set.Low) }
	cuts := []int{x.set.Low, 0, 1, x.half()}
	slices.SortFunc(cuts, func(a int, b int) int { return cmp.Compare(behindLow(a), behindLow(b)) })
	return slices.Compact(cuts)
}

// members are those from low up to high, but no more than the first so many.
func (x *operand) members(low int, high int, most int) []int {
	var l []int
	for len(l) < most && low <= high {
		n, e := val.Next(x.set, low)
		if e != api.OK || n > high {
			break
		}
		l = append(l, n)
		low = n + 1
	}
	return l
}

func (x *operand) oneByOne(l []int) []piece {
	var all []piece
	for _, n := range l {
		all = append(all, x.piece(n, n))
	}
	return all
}

// last is the greatest member that is not above high, where there is one: all
// turned round, the least that is not below.
func (x *operand) last(high int) int {
	n, _ := val.Next(x.turned(), x.top()-high)
	return x.top() - n
}

// turned is of the greatest number less each member.
func (x *operand) turned() api.Val {
	v, top := x.set, x.top()
	return api.Val{Width: v.Width, Low: top - v.High, High: top - v.Low, Free: v.Free, Bits: top &^ v.Free &^ v.Bits}
}

// piece is of the members from low up to high: ahead of the first bit by which
// these two differ all of them are alike.
func (x *operand) piece(low int, high int) piece {
	free := x.set.Free & (1<<bits.Len(uint(low^high)) - 1)
	view := x.view(low)
	return piece{low: view, high: x.view(high), pattern: except(view, free)}
}

// ends are the least and the greatest view.
func (x *operand) ends() (least int, greatest int) {
	all := x.pieces()
	least, greatest = all[0].low, all[0].high
	for _, p := range all {
		least, greatest = min(least, p.low), max(greatest, p.high)
	}
	return least, greatest
}

// single is whether there is one member alone.
func (p piece) single() bool {
	return p.low == p.high
}

// size is the greatest one's, the sign left out.
func (p piece) size() int {
	return max(p.high, -p.low)
}
