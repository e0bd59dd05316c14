package abs

import (
	"math/bits"
	"slices"
	"sync"
	"sync/atomic"

	"cellar/api"
	"cellar/bytes"
	"cellar/val"
	"cellar/word"
)

// many is to how many blocks there may be pointers, null's too.
const many = api.MaxVars + api.MaxNews + 1

// set is one that a call was handed, and that may be.
type set struct {
	kind int
	abs  api.Abs

	gone     sync.Once // its pointers are gone through once, however often the call asks for them
	reaches  [many]reach
	pointers atomic.Int64
}

func take(kind int, x api.Abs) (*set, api.Errno) {
	if !mayBe(kind, x) {
		return nil, api.ErrForm
	}
	return &set{kind: kind, abs: x}, api.OK
}

func takeBoth(kind int, a api.Abs, b api.Abs) (x *set, y *set, e api.Errno) {
	if x, e = take(kind, a); e != api.OK {
		return nil, nil, e
	}
	if y, e = take(kind, b); e != api.OK {
		return nil, nil, e
	}
	return x, y, api.OK
}

// reach is what its pointers to a block lead to.
func (x *set) reach(block int) reach {
	x.gone.Do(x.goThrough)
	return x.reaches[block]
}

// count is how many pointers are members.
func (x *set) count() int {
	x.gone.Do(x.goThrough)
	return int(x.pointers.Load())
}

func (x *set) goThrough() {
	for _, b := range x.abs.Ptrs {
		r := reachOf(b.Off)
		x.reaches[b.Block] = r
		x.pointers.Add(int64(bits.OnesCount64(r.offs)))
	}
}

func (x *set) has(s api.Scalar) bool {
	v, n := x.abs.Num, s.N
	if x.kind == api.KPtr {
		v, n = x.off(s.Block), s.Off
	}
	is, _ := val.Has(v, n)
	return is
}

// off is what it says of a block: offsets beyond MaxSize may be among them.
func (x *set) off(block int) api.Val {
	for _, b := range x.abs.Ptrs {
		if b.Block == block {
			return b.Off
		}
	}
	return nothing()
}

func (x *set) empty() bool {
	if x.kind == api.KPtr {
		return x.count() == 0
	}
	is, _ := val.Empty(x.abs.Num)
	return is
}

func (x *set) single() (bool, api.Scalar) {
	if x.kind != api.KPtr {
		is, n, _ := val.Single(x.abs.Num)
		return is, api.Scalar{N: n}
	}
	if x.count() != 1 {
		return false, api.Scalar{}
	}
	// All other ones lead nowhere.
	block := slices.IndexFunc(x.reaches[:], func(r reach) bool { return !r.nowhere() })
	return true, api.Scalar{Ptr: true, Block: block, Off: x.reach(block).first()}
}

// in is whether all members of x are y's.
func (x *set) in(y *set) bool {
	if x.kind != api.KPtr {
		is, _ := val.In(x.abs.Num, y.abs.Num)
		return is
	}
	for block := range many {
		if !x.reach(block).in(y.reach(block)) {
			return false
		}
	}
	return true
}

// with is a set made of x and y: of their numbers, or, block by block, of their pointers.
func (x *set) with(y *set, numbers func(api.Val, api.Val) (api.Val, api.Errno), reaches func(reach, reach) api.Val) (api.Abs, api.Errno) {
	if x.kind != api.KPtr {
		n, e := numbers(x.abs.Num, y.abs.Num)
		return api.Abs{Num: n}, e
	}
	var l []api.Base
	for block := range many {
		r, s := x.reach(block), y.reach(block)
		if r.nowhere() && s.nowhere() {
			continue
		}
		v := reaches(r, s)
		if none, _ := val.Empty(v); !none {
			l = append(l, api.Base{Block: block, Off: v})
		}
	}
	return api.Abs{Ptrs: l}, api.OK
}

func (x *set) copy() api.Abs {
	return api.Abs{Num: x.abs.Num, Ptrs: slices.Clone(x.abs.Ptrs)}
}

func mayBe(kind int, x api.Abs) bool {
	if kind == api.KPtr {
		return x.Num == api.Val{} && areBases(x.Ptrs)
	}
	w, e := word.Width(kind)
	return e == api.OK && isOf(x.Num, w) && len(x.Ptrs) == 0
}

// areBases is whether all may be, and rise: so there are no more than there may be blocks.
func areBases(l []api.Base) bool {
	ahead := -1
	for _, b := range l {
		if b.Block <= ahead || !isBase(b) {
			return false
		}
		ahead = b.Block
	}
	return true
}

func isBase(b api.Base) bool {
	if !isBlock(b.Block) || !isOf(b.Off, width) {
		return false
	}
	if b.Block > 0 {
		return true
	}
	is, off, _ := val.Single(b.Off)
	return is && off == 0 // null has no other offset
}

func isBlock(block int) bool {
	return block >= 0 && block < many
}

// isOf is whether v is a set of numbers of a width.
func isOf(v api.Val, w int) bool {
	return v.Width == w && val.Check(v) == api.OK
}

// isScalar is whether a set of a kind could have s.
func isScalar(kind int, s api.Scalar) bool {
	return bytes.Check(kind, s) == api.OK && isBlock(s.Block)
}
