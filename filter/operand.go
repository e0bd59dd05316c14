package filter

import (
	"sync"
	"sync/atomic"

	"cellar/api"
	"cellar/val"
	"cellar/word"
)

// operand is a set of which something is asked.
type operand struct {
	set api.Val

	ends sync.Once // not every question asks for them
	low  atomic.Int64
	high atomic.Int64 // gathered bit by bit, from the highest on
}

func take(v api.Val) *operand {
	return &operand{set: v}
}

// top is the greatest number of the set's width.
func (x *operand) top() int {
	return 1<<x.set.Width - 1
}

// least is the least member's number, if there is a member.
func (x *operand) least() int {
	x.ends.Do(x.findEnds)
	return int(x.low.Load())
}

func (x *operand) greatest() int {
	x.ends.Do(x.findEnds)
	return int(x.high.Load())
}

func (x *operand) findEnds() {
	least, _ := val.Next(x.set, 0)
	x.low.Store(int64(least))
	for bit := x.set.Width - 1; bit >= 0; bit-- {
		// Is there a member that is not below what there is with this bit?
		if _, e := val.Next(x.set, x.soFar()|1<<bit); e == api.OK {
			x.high.Or(1 << bit)
		}
	}
}

func (x *operand) soFar() int {
	return int(x.high.Load())
}

// inOrder is a set whose numbers rise as the views of a kind do: the halves of a
// signed one change places. Done again it is the first one.
func (x *operand) inOrder(kind int) *operand {
	signed, _ := word.Signed(kind)
	v := x.set
	if !signed || v.None {
		return x
	}
	half := 1 << (v.Width - 1)
	v.Low ^= half
	v.High ^= half
	v.Bits ^= half &^ v.Free
	return take(v)
}

// meet is what is left of x in v.
func (x *operand) meet(v api.Val) api.Val {
	both, _ := val.Meet(x.set, v)
	return both
}

// row is all of x's numbers from low on to high, over the end, if high is below low.
func (x *operand) row(low int, high int) api.Val {
	return api.Val{Width: x.set.Width, Low: low & x.top(), High: high & x.top(), Free: x.top()}
}

func (x *operand) upTo(n int) api.Val {
	return x.meet(x.row(0, n))
}

func (x *operand) from(n int) api.Val {
	return x.meet(x.row(n, x.top()))
}

func (x *operand) without(n int) api.Val {
	return x.meet(x.row(n+1, n-1))
}

// unlike is what is left of x, if each member has an unlike one in y: where y has
// more than one, all of them have.
func (x *operand) unlike(y *operand) api.Val {
	if is, n, _ := val.Single(y.set); is {
		return x.without(n)
	}
	return x.set
}

// ending is a set that has all members of x whose lowest bits are a number of v, a
// set of a smaller width.
func (x *operand) ending(v api.Val) api.Val {
	if v.None {
		none, _ := val.No(x.set.Width)
		return none
	}
	lowest := take(v).top()
	ending := x.row(0, x.top())
	ending.Free, ending.Bits = v.Free|x.top()&^lowest, v.Bits
	all := x.meet(x.set) // the same members, but its ends may lie nearer
	if all.None || (all.High-all.Low)&x.top() > lowest {
		return ending
	}
	// On the way the lowest bits go round once at most, so that v's ends have their
	// places there.
	place := func(n int) int { return (all.Low + (n-all.Low)&lowest) & x.top() }
	ending.Low, ending.High = place(v.Low), place(v.High)
	return ending
}
