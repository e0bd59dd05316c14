package run

import (
	"slices"
	"sync/atomic"

	"cellar/api"
	"cellar/mem"
)

// machine is a program that runs. Its blocks are never written to, but replaced: so
// memory is as it was where something goes wrong.
type machine struct {
	*ground
	blocks []api.Block
	next   []int
	inputs atomic.Int64 // how many were read
	bad    api.Alarm
}

// state is of new memory.
func (m *machine) state() api.State {
	s := api.State{Blocks: slices.Clone(m.blocks), Next: slices.Clone(m.next), Inputs: int(m.inputs.Load()), Bad: m.bad}
	for i, b := range s.Blocks {
		s.Blocks[i].Bytes = slices.Clone(b.Bytes)
	}
	return s
}

func (m *machine) ended() bool {
	return Ended(api.State{Next: m.next, Bad: m.bad})
}

func (m *machine) step(t api.Script) {
	if m.ended() {
		return
	}
	at := m.next[0]
	m.next = m.next[1:]
	if bad := m.do(at, t); bad != api.BadNone {
		m.bad = api.Alarm{At: at, What: bad}
	}
}

// do does a statement, which was the first of those that come next, and tells what goes
// wrong.
func (m *machine) do(at int, t api.Script) int {
	switch s := m.Stmts[at]; s.Op {
	case api.SSet:
		return m.set(s)
	case api.SRead:
		return m.read(s, t.Reads)
	case api.SNew:
		return m.make(s, t.News)
	case api.SFree:
		return m.free(s)
	case api.SIf:
		return m.choose(s, s.Body, s.Else)
	case api.SWhile:
		return m.choose(s, append(slices.Clone(s.Body), at), nil)
	}
	m.next = nil
	return api.BadNone
}

func (m *machine) set(s api.Stmt) int {
	v := m.values()
	to, bad := v.of(s.To)
	if bad != api.BadNone {
		return bad
	}
	x, bad := v.of(s.E)
	if bad != api.BadNone {
		return bad
	}
	return m.store(m.blocks, to, s.Kind, x)
}

func (m *machine) read(s api.Stmt, numbers []int) int {
	to, bad := m.values().of(s.To)
	if bad != api.BadNone {
		return bad
	}
	n, _ := round(numbers, int(m.inputs.Load()))
	bad = m.store(m.blocks, to, s.Kind, wrapped(s.Kind, n))
	if bad == api.BadNone {
		m.inputs.Add(1)
	}
	return bad
}

// make stores into memory where the block is made already: to may point into it.
func (m *machine) make(s api.Stmt, odds []int) int {
	to, bad := m.values().of(s.To)
	if bad != api.BadNone {
		return bad
	}
	if m.blocks[s.N].State != api.NotYet {
		return api.BadFree
	}
	odd, told := round(odds, s.N-1-len(m.Vars))
	if told && odd%2 == 0 {
		return m.store(m.with(s.N, api.Block{State: api.Failed}), to, api.KPtr, pointer(0))
	}
	return m.store(m.with(s.N, m.fresh(s.N)), to, api.KPtr, pointer(s.N))
}

func (m *machine) free(s api.Stmt) int {
	x, bad := m.values().of(s.E)
	if bad != api.BadNone {
		return bad
	}
	if x == pointer(0) {
		return api.BadNone
	}
	if !m.isNew(x.Block) || m.blocks[x.Block].State != api.Alive || x.Off != 0 {
		return api.BadFree
	}
	m.blocks = m.with(x.Block, api.Block{State: api.Freed})
	return api.BadNone
}

// choose has yes come next, or no, ahead of what comes next anyway.
func (m *machine) choose(s api.Stmt, yes []int, no []int) int {
	x, bad := m.values().of(s.E)
	if bad != api.BadNone {
		return bad
	}
	if x.N == 0 {
		yes = no
	}
	m.next = slices.Concat(yes, m.next)
	return api.BadNone
}

// store has memory be blocks, with a scalar of a kind stored at to, if nothing goes wrong.
func (m *machine) store(blocks []api.Block, to api.Scalar, kind int, x api.Scalar) int {
	l, bad, _ := mem.Store(m.Abi, blocks, to, kind, x)
	if bad == api.BadNone {
		m.blocks = l
	}
	return bad
}

// with is memory in which a block is another one.
func (m *machine) with(block int, b api.Block) []api.Block {
	l := slices.Clone(m.blocks)
	l[block] = b
	return l
}

// round is the one at place i of a list that begins again behind its end, if it has any.
func round(l []int, i int) (n int, told bool) {
	if len(l) == 0 {
		return 0, false
	}
	return l[i%len(l)], true
}
