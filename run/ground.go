package run

import (
	"slices"

	"cellar/api"
	"cellar/mem"
	"cellar/prog"
)

// ground is what all states of a program have together: it, and its blocks' sizes.
type ground struct {
	api.Program
	sizes []int
}

func take(p api.Program) (*ground, api.Errno) {
	sizes, e := prog.Kinds(p)
	if e != api.OK {
		return nil, e
	}
	return &ground{Program: p, sizes: sizes}, api.OK
}

func (g *ground) begin() *machine {
	m := &machine{ground: g, blocks: make([]api.Block, len(g.sizes)), next: g.Main}
	for i := range g.Vars {
		m.blocks[i+1] = g.fresh(i + 1)
	}
	return m
}

// resume is the machine in a state, if program and state may be.
func resume(p api.Program, s api.State) (*machine, api.Errno) {
	g, e := take(p)
	if e != api.OK {
		return nil, e
	}
	if !g.mayBe(s) {
		return nil, api.ErrForm
	}
	m := &machine{ground: g, blocks: s.Blocks, next: s.Next, bad: s.Bad}
	m.inputs.Store(int64(s.Inputs))
	return m, api.OK
}

// fresh is a block that is Alive and to which nothing was written.
func (g *ground) fresh(block int) api.Block {
	return api.Block{State: api.Alive, Bytes: make([]api.Byte, g.sizes[block])}
}

func (g *ground) isVar(block int) bool {
	return block > 0 && block <= len(g.Vars)
}

func (g *ground) isNew(block int) bool {
	return block > len(g.Vars)
}

func (g *ground) mayBe(s api.State) bool {
	return g.haveBlocks(s.Blocks) && g.areStmts(s.Next) && s.Inputs >= 0 && s.Inputs <= api.MaxSteps && g.mayBeBad(s.Bad)
}

func (g *ground) haveBlocks(l []api.Block) bool {
	if mem.Check(l) != api.OK || len(l) != len(g.sizes) {
		return false
	}
	for i, b := range l {
		if g.isVar(i) && b.State != api.Alive || b.State == api.Alive && len(b.Bytes) != g.sizes[i] || !g.pointInto(b.Bytes) {
			return false
		}
	}
	return true
}

// pointInto is whether all pointers in l are to blocks there are, or just behind them.
func (g *ground) pointInto(l []api.Byte) bool {
	for _, b := range l {
		if b.State == api.IsPart && (b.Block >= len(g.sizes) || b.Off > g.sizes[b.Block]) {
			return false
		}
	}
	return true
}

func (g *ground) areStmts(l []int) bool {
	return !slices.ContainsFunc(l, func(i int) bool { return !isPlace(i, len(g.Stmts)) })
}

func (g *ground) mayBeBad(b api.Alarm) bool {
	is := isPlace(b.At, len(g.Stmts)) && b.What >= api.BadBounds && b.What <= api.BadFree
	return is || b == api.Alarm{}
}

func isPlace(i int, below int) bool {
	return i >= 0 && i < below
}
