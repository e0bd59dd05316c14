package samples

import (
	"slices"

	"cellar/api"
)

// Maker makes a program piece by piece: variables and blocks first, then expressions and
// statements, which tell their places.
type Maker struct {
	p    api.Program
	open []int // what stands in the list that is being made
}

// NewMaker begins a program of these blocks.
func NewMaker(a api.Abi, vars []int, news []int) *Maker {
	return &Maker{p: api.Program{Abi: a, Vars: slices.Clone(vars), News: slices.Clone(news)}}
}

// Done is the program that was made.
func (m *Maker) Done() api.Program {
	p := Clone(m.p)
	p.Main = slices.Clone(m.open)
	return p
}

// Expr is whatever expression.
func (m *Maker) Expr(op int, kind int, n int, a int, b int) int {
	m.p.Exprs = append(m.p.Exprs, api.Expr{Op: op, Kind: kind, N: n, A: a, B: b})
	return len(m.p.Exprs) - 1
}

// Num is a number, or null.
func (m *Maker) Num(kind int, n int) int {
	return m.Expr(api.ENum, kind, n, 0, 0)
}

// Addr is the address of a variable's byte.
func (m *Maker) Addr(block int, off int) int {
	at := m.Expr(api.EAddr, api.KPtr, block, 0, 0)
	if off == 0 {
		return at
	}
	return m.Move(at, m.Num(api.KI32, off))
}

// Load is what lies at a place.
func (m *Maker) Load(kind int, a int) int {
	return m.Expr(api.ELoad, kind, 0, a, 0)
}

// One is of one of its own kind, or of another one's.
func (m *Maker) One(op int, kind int, a int) int {
	return m.Expr(op, kind, 0, a, 0)
}

// Two is of two.
func (m *Maker) Two(op int, kind int, a int, b int) int {
	return m.Expr(op, kind, 0, a, b)
}

// Move is pointer a moved by b.
func (m *Maker) Move(a int, b int) int {
	return m.Two(api.EMove, api.KPtr, a, b)
}

// Stmt is whatever statement, without lists.
func (m *Maker) Stmt(s api.Stmt) int {
	m.p.Stmts = append(m.p.Stmts, s)
	m.open = append(m.open, len(m.p.Stmts)-1)
	return len(m.p.Stmts) - 1
}

// Set stores e at a place.
func (m *Maker) Set(to int, kind int, e int) int {
	return m.Stmt(api.Stmt{Op: api.SSet, To: to, Kind: kind, E: e})
}

// Read stores what comes.
func (m *Maker) Read(to int, kind int) int {
	return m.Stmt(api.Stmt{Op: api.SRead, To: to, Kind: kind})
}

// New makes a block.
func (m *Maker) New(to int, block int) int {
	return m.Stmt(api.Stmt{Op: api.SNew, To: to, N: block})
}

// Free frees one.
func (m *Maker) Free(e int) int {
	return m.Stmt(api.Stmt{Op: api.SFree, E: e})
}

// Stop ends all.
func (m *Maker) Stop() int {
	return m.Stmt(api.Stmt{Op: api.SStop})
}

// If has what body makes, else what other makes; both may be nil.
func (m *Maker) If(e int, body func(), other func()) int {
	i := m.Stmt(api.Stmt{Op: api.SIf, E: e})
	in := m.within(body)
	out := m.within(other)
	m.p.Stmts[i].Body, m.p.Stmts[i].Else = in, out
	return i
}

// While has what body makes.
func (m *Maker) While(e int, body func()) int {
	i := m.Stmt(api.Stmt{Op: api.SWhile, E: e})
	in := m.within(body)
	m.p.Stmts[i].Body = in
	return i
}

func (m *Maker) within(do func()) []int {
	outer := m.open
	m.open = nil
	if do != nil {
		do()
	}
	inner := m.open
	m.open = outer
	return inner
}

// Clone is the same program, of memory of its own.
func Clone(p api.Program) api.Program {
	p.Vars, p.News, p.Main = slices.Clone(p.Vars), slices.Clone(p.News), slices.Clone(p.Main)
	p.Exprs, p.Stmts = slices.Clone(p.Exprs), slices.Clone(p.Stmts)
	for i, s := range p.Stmts {
		p.Stmts[i].Body, p.Stmts[i].Else = slices.Clone(s.Body), slices.Clone(s.Else)
	}
	return p
}
