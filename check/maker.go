package check

import (
	"sync"
	"sync/atomic"

	"cellar/api"
	"cellar/lay"
)

// maker makes the program of a source, as its text goes. Behind something wrong it goes
// on through what is left, but no expression is made any more.
type maker struct {
	*source
	loops int          // how many whiles are around
	made  atomic.Int32 // how many expressions came
	p     api.Program

	first sync.Once // of all that is wrong just what is met first is told
	wrong api.Errno
}

// need has e be told, unless something is so, or something else was wrong already.
func (m *maker) need(is bool, e api.Errno) {
	if !is {
		m.first.Do(func() { m.wrong = e })
	}
}

func (m *maker) program() (api.Program, api.Errno) {
	m.p.Abi = m.machine
	for _, of := range m.vars {
		size, _ := lay.Size(m.machine, m.types, of)
		m.p.Vars = append(m.p.Vars, size)
	}
	whole := m.nodes[len(m.nodes)-1]
	m.p.Main = m.stmts(whole.Parts[len(m.vars):])
	if m.wrong != api.OK {
		return api.Program{}, m.wrong
	}
	return m.p, api.OK
}

// stmts makes statements that stand side by side, and tells their places.
func (m *maker) stmts(nodes []int) []int {
	var l []int
	for _, i := range nodes {
		l = append(l, m.stmt(m.nodes[i]))
	}
	return l
}

// stmt has its place ahead of what stands in it.
func (m *maker) stmt(n api.Node) int {
	at := len(m.p.Stmts)
	m.p.Stmts = append(m.p.Stmts, api.Stmt{})
	s := m.content(n)
	m.p.Stmts[at] = s
	return at
}

func (m *maker) content(n api.Node) api.Stmt {
	switch n.Op {
	case api.NSet:
		return m.set(n)
	case api.NRead:
		return m.read(n)
	case api.NNew:
		return m.block(n)
	case api.NFree:
		return m.free(n)
	case api.NIf:
		return m.choice(n)
	case api.NWhile:
		return m.loop(n)
	}
	return api.Stmt{Op: api.SStop}
}

func (m *maker) set(n api.Node) api.Stmt {
	to := m.place(n.Parts[0])
	m.need(isScalar(to.kind), api.ErrType)
	e := m.value(n.Parts[1])
	m.need(e.kind == to.kind, api.ErrType)
	return api.Stmt{Op: api.SSet, To: to.at, Kind: to.kind, E: e.at}
}

func (m *maker) read(n api.Node) api.Stmt {
	to := m.place(n.Parts[0])
	m.need(isNumbers(to.kind), api.ErrType)
	return api.Stmt{Op: api.SRead, To: to.at, Kind: to.kind}
}

// block is a statement that makes one, which is the next behind those there are.
func (m *maker) block(n api.Node) api.Stmt {
	m.need(m.loops == 0, api.ErrForm)
	to := m.place(n.Parts[0])
	m.need(to.kind == api.KPtr, api.ErrType)
	m.need(n.N >= 1 && n.N <= api.MaxSize, api.ErrForm)
	m.p.News = append(m.p.News, n.N)
	return api.Stmt{Op: api.SNew, To: to.at, N: len(m.p.Vars) + len(m.p.News)}
}

func (m *maker) free(n api.Node) api.Stmt {
	e := m.value(n.Parts[0])
	m.need(e.kind == api.KPtr, api.ErrType)
	return api.Stmt{Op: api.SFree, E: e.at}
}

func (m *maker) choice(n api.Node) api.Stmt {
	s := api.Stmt{Op: api.SIf, E: m.question(n.Parts[0])}
	s.Body = m.stmts(m.nodes[n.Parts[1]].Parts)
	if len(n.Parts) > 2 {
		s.Else = m.stmts(m.nodes[n.Parts[2]].Parts)
	}
	return s
}

func (m *maker) loop(n api.Node) api.Stmt {
	s := api.Stmt{Op: api.SWhile, E: m.question(n.Parts[0])}
	m.loops++
	s.Body = m.stmts(m.nodes[n.Parts[1]].Parts)
	m.loops--
	return s
}

// question is the place of an expression on which it hangs what comes next.
func (m *maker) question(i int) int {
	e := m.value(i)
	m.need(e.kind == api.KI32, api.ErrType)
	return e.at
}
