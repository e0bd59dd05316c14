package abs

import (
	"math/bits"

	"cellar/api"
	"cellar/grow"
	"cellar/val"
)

// width is that of sets of offsets.
const width = 8

// reach is what pointers to one block lead to.
type reach struct {
	off  api.Val
	offs uint64 // bit by bit, which of 0 to MaxSize off has: beyond them is no pointer's offset
}

func reachOf(v api.Val) reach {
	if v == upToMost() {
		return reach{v, 1<<(api.MaxSize+1) - 1} // what is often met need not be gone through
	}
	r := reach{off: v}
	for n, e := val.Next(v, 0); e == api.OK && n <= api.MaxSize; n, e = val.Next(v, n+1) {
		r.offs |= 1 << n
	}
	return r
}

func (r reach) nowhere() bool {
	return r.offs == 0
}

// first is the least offset, if there is one.
func (r reach) first() int {
	return bits.TrailingZeros64(r.offs)
}

func (r reach) in(s reach) bool {
	return r.offs&^s.offs == 0
}

// tidy is a set of the same offsets: r's own, if it has nothing beyond MaxSize.
func (r reach) tidy() api.Val {
	switch bits.OnesCount64(r.offs) {
	case 0:
		return nothing()
	case 1:
		return just(r.first())
	}
	if _, e := val.Next(r.off, api.MaxSize+1); e != api.OK {
		return r.off
	}
	v, _ := val.Meet(r.off, upToMost())
	return v
}

func (r reach) join(s reach) api.Val {
	switch {
	case s.in(r):
		return r.tidy()
	case r.in(s):
		return s.tidy()
	}
	v, _ := val.Join(r.tidy(), s.tidy())
	return v
}

func (r reach) meet(s reach) api.Val {
	switch {
	case r.in(s):
		return r.tidy()
	case s.in(r):
		return s.tidy()
	}
	v, _ := val.Meet(r.tidy(), s.tidy())
	return v
}

// widen goes on from r as it stands, and never back to nowhere: so a block comes once,
// and is another one at most MaxGrow times behind that.
func (r reach) widen(s reach) api.Val {
	if r.nowhere() {
		return s.tidy()
	}
	if s.in(r) {
		return r.off
	}
	v, _ := grow.Wide(r.off, s.tidy())
	return v
}

// everywhere is null, and all pointers to blocks up to that one.
func everywhere(last int) []api.Base {
	l := []api.Base{{Off: just(0)}}
	for block := range last {
		l = append(l, api.Base{Block: block + 1, Off: upToMost()})
	}
	return l
}

// upToMost is a set of all offsets that a pointer may have.
func upToMost() api.Val {
	return api.Val{Width: width, High: api.MaxSize, Free: 1<<width - 1}
}

func nothing() api.Val {
	v, _ := val.No(width)
	return v
}

func just(off int) api.Val {
	v, _ := val.One(width, off)
	return v
}
