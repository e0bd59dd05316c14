package samples

import (
	"math"
	"slices"

	"cellar/api"
)

// Scripts are some: none, short ones that begin again, numbers too great for their kinds.
func Scripts() []api.Script {
	return []api.Script{
		{},
		{Reads: []int{}, News: []int{}},
		{Reads: []int{7}, News: []int{1}},
		{Reads: []int{0, 1}, News: []int{0}},
		{Reads: []int{-1, 255, 256, 1 << 31, 1 << 32}, News: []int{2, -3}},
		{Reads: []int{math.MinInt, math.MaxInt, 3}, News: []int{math.MaxInt, math.MinInt, 1}},
	}
}

// CloneBlocks is the same memory, of memory of its own.
func CloneBlocks(l []api.Block) []api.Block {
	l = slices.Clone(l)
	for i, b := range l {
		l[i].Bytes = slices.Clone(b.Bytes)
	}
	return l
}

// CloneState is the same state, of memory of its own.
func CloneState(s api.State) api.State {
	s.Blocks, s.Next = CloneBlocks(s.Blocks), slices.Clone(s.Next)
	return s
}

// AlikeStates takes a nil list and an empty one as one.
func AlikeStates(s api.State, t api.State) bool {
	blocks := slices.EqualFunc(s.Blocks, t.Blocks, func(x api.Block, y api.Block) bool {
		return x.State == y.State && slices.Equal(x.Bytes, y.Bytes)
	})
	return blocks && slices.Equal(s.Next, t.Next) && s.Inputs == t.Inputs && s.Bad == t.Bad
}

// NotStates are states that may not be of a program, which has a variable, a block that is
// made and a statement: each is s, which may be, but for one thing.
func NotStates(p api.Program, s api.State) []api.State {
	var l []api.State
	but := func(do func(s *api.State)) {
		other := CloneState(s)
		do(&other)
		l = append(l, other)
	}
	but(func(s *api.State) { s.Blocks = nil })
	but(func(s *api.State) { s.Blocks = s.Blocks[:1] })
	but(func(s *api.State) { s.Blocks = s.Blocks[:len(s.Blocks)-1] })
	but(func(s *api.State) { s.Blocks = append(s.Blocks, api.Block{}) })
	but(func(s *api.State) { s.Blocks = append(s.Blocks, s.Blocks[1]) })
	notBlocks(p, but)
	for _, n := range []int{-1, len(p.Stmts), len(p.Stmts) + 1, math.MaxInt, math.MinInt} {
		but(func(s *api.State) { s.Next = []int{n} })
		but(func(s *api.State) { s.Next = append(s.Next, n) })
		but(func(s *api.State) { s.Next = append([]int{n}, s.Next...) })
		but(func(s *api.State) { s.Bad = api.Alarm{At: n, What: api.BadNull} })
	}
	for _, n := range []int{-1, api.MaxSteps + 1, math.MaxInt, math.MinInt} {
		but(func(s *api.State) { s.Inputs = n })
	}
	for _, n := range []int{-1, api.BadFree + 1, math.MaxInt, math.MinInt} {
		but(func(s *api.State) { s.Bad = api.Alarm{What: n} })
	}
	but(func(s *api.State) { s.Bad = api.Alarm{At: len(p.Stmts) - 1, What: api.BadFree + 1} })
	but(func(s *api.State) { s.Bad = api.Alarm{At: -1} })
	if len(p.Stmts) > 1 {
		but(func(s *api.State) { s.Bad = api.Alarm{At: 1} })
	}
	return l
}

func notBlocks(p api.Program, but func(do func(s *api.State))) {
	but(func(s *api.State) { s.Blocks[0] = api.Block{State: api.Freed} })
	but(func(s *api.State) { s.Blocks[0] = Room() })
	but(func(s *api.State) { s.Blocks[0] = Room(Digit(0)) })
	sizes := slices.Concat([]int{0}, p.Vars, p.News)
	for i, size := range sizes[1:] {
		i++
		for _, many := range []int{0, size - 1, size + 1, api.MaxSize + 1} {
			but(func(s *api.State) { s.Blocks[i] = Room(make([]api.Byte, many)...) })
		}
		for _, state := range []int{api.NotYet, api.Freed, api.Failed} {
			if i <= len(p.Vars) {
				but(func(s *api.State) { s.Blocks[i] = api.Block{State: state} })
			}
			but(func(s *api.State) { s.Blocks[i] = api.Block{State: state, Bytes: make([]api.Byte, size)} })
		}
		for _, state := range []int{-1, 4, math.MaxInt, math.MinInt} {
			but(func(s *api.State) { s.Blocks[i] = api.Block{State: state} })
		}
		strange := append(NotBytes(), Part(len(sizes), 0, 0), Part(api.MaxSize, 0, 3))
		for block, size := range sizes[1:] {
			strange = append(strange, Part(block+1, size+1, 0), Part(block+1, api.MaxSize+1, 1))
		}
		for _, b := range strange {
			for _, at := range []int{0, size - 1} {
				but(func(s *api.State) {
					s.Blocks[i] = Room(make([]api.Byte, size)...)
					s.Blocks[i].Bytes[at] = b
				})
			}
		}
	}
}
