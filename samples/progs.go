package samples

import (
	"math"
	"slices"

	"cellar/api"
)

// Whole is a program of each op: blocks 1 (a number, a pointer), 2, 3; 4 and 5 are made.
func Whole(a api.Abi) api.Program {
	m := NewMaker(a, []int{8, 4, 1}, []int{8, api.MaxSize})
	count, next, byte3 := m.Addr(1, 0), m.Addr(1, 4), m.Addr(3, 0)
	three := m.Num(api.KI32, 3)
	m.Set(count, api.KI32, three)
	m.New(next, 4)
	loaded := m.Load(api.KI32, count)
	m.While(m.Two(api.ELess, api.KI32, m.Num(api.KI32, 0), loaded), func() {
		m.Set(count, api.KI32, m.Two(api.EAdd, api.KI32, loaded, m.One(api.ENeg, api.KI32, m.Num(api.KI32, 1))))
		m.If(m.Two(api.EEq, api.KI32, loaded, three), func() {
			m.Read(byte3, api.KU8)
		}, func() {
			m.Set(byte3, api.KU8, m.One(api.ENot, api.KU8, m.One(api.ECast, api.KU8, loaded)))
		})
	})
	p := m.Load(api.KPtr, next)
	m.If(m.One(api.EZero, api.KI32, p), func() {
		m.Stop()
	}, func() {
		m.Free(p)
		m.New(next, 5)
	})
	m.Set(next, api.KPtr, m.Move(m.Num(api.KPtr, 0), m.Two(api.EApart, api.KI32, byte3, byte3)))
	m.While(m.Two(api.ESame, api.KI32, next, count), nil)
	for op := api.ESub; op <= api.EShr; op++ {
		m.Two(op, api.KU16, m.Num(api.KU16, 7), m.One(api.ECast, api.KU16, three))
	}
	return m.Done()
}

// Programs are some that may be: the edges among them.
func Programs() []api.Program {
	var l []api.Program
	for _, a := range Machines() {
		l = append(l, api.Program{Abi: a}, Whole(a))
	}
	a := api.Abi{Ptr: 4}
	l = append(l,
		api.Program{Abi: a, Vars: []int{}, News: []int{}, Exprs: []api.Expr{}, Stmts: []api.Stmt{}, Main: []int{}},
		api.Program{Abi: a, Vars: []int{1, api.MaxSize, 1, api.MaxSize}, News: []int{1, api.MaxSize}},
		api.Program{Abi: a, News: []int{5, 5}},
	)
	return append(l, exprs(api.MaxExprs), stmts(api.MaxStmts), stops(api.MaxStmts), nest(api.MaxNest, false), nest(api.MaxNest, true), empties())
}

// exprs has so many.
func exprs(many int) api.Program {
	m := NewMaker(api.Abi{Ptr: 2}, nil, nil)
	last := m.Num(api.KI16, 1<<16-1)
	for range many - 1 {
		last = m.Two(api.EXor, api.KI16, 0, last)
	}
	return m.Done()
}

// stmts has so many, some in one another.
func stmts(many int) api.Program {
	m := NewMaker(api.Abi{Ptr: 2}, []int{4}, nil)
	at, n := m.Addr(1, 0), m.Num(api.KI32, 0)
	m.While(n, func() {
		m.If(n, func() { m.Stop() }, func() { m.Free(at) })
		m.If(n, nil, func() { m.Read(at, api.KU8) })
		for range many - 6 {
			m.Set(at, api.KI32, n)
		}
	})
	return m.Done()
}

func stops(many int) api.Program {
	m := NewMaker(api.Abi{Ptr: 2}, nil, nil)
	for range many {
		m.Stop()
	}
	return m.Done()
}

// nest has so many bodies in one another, with a statement in the innermost.
func nest(deep int, other bool) api.Program {
	m := NewMaker(api.Abi{Ptr: 2}, nil, nil)
	n := m.Num(api.KI32, 1)
	var in func(int)
	in = func(left int) {
		body := func() { in(left - 1) }
		switch {
		case left == 0:
			m.Stop()
		case other:
			m.If(n, nil, body)
		default:
			m.While(n, body)
		}
	}
	in(deep)
	return m.Done()
}

// empties has bodies without statements in as many bodies as there may be.
func empties() api.Program {
	m := NewMaker(api.Abi{Ptr: 2}, nil, nil)
	n := m.Num(api.KI32, 1)
	var in func(int)
	in = func(left int) {
		if left == 0 {
			m.While(n, nil)
			return
		}
		m.If(n, func() { in(left - 1) }, func() { m.If(n, nil, nil) })
	}
	in(api.MaxNest)
	return m.Done()
}

// NotPrograms are programs that may not be, each but for one thing.
func NotPrograms() []api.Program {
	l := []api.Program{exprs(api.MaxExprs + 1), stmts(api.MaxStmts + 1), stops(api.MaxStmts + 1), stops(1000), nest(api.MaxNest+1, false), nest(api.MaxNest+1, true)}
	for _, a := range NotMachines() {
		l = append(l, api.Program{Abi: a}, Whole(a))
	}
	but := func(do func(p *api.Program)) {
		p := Whole(api.Abi{Ptr: 4})
		do(&p)
		l = append(l, p)
	}
	for _, n := range []int{0, -1, api.MaxSize + 1, math.MaxInt, math.MinInt} {
		for i := range 3 {
			but(func(p *api.Program) { p.Vars[i] = n })
		}
		for i := range 2 {
			but(func(p *api.Program) { p.News[i] = n })
		}
	}
	but(func(p *api.Program) { p.Vars = []int{8, 4, 1, 1, 1} })
	but(func(p *api.Program) { p.News = []int{8, 8, 8} })
	but(func(p *api.Program) { p.Vars = nil })
	but(func(p *api.Program) { p.News = nil })
	for i := range Whole(api.Abi{Ptr: 4}).Exprs {
		for _, wrong := range wrongExprs() {
			but(func(p *api.Program) { wrong(&p.Exprs[i], i) })
		}
	}
	for i := range Whole(api.Abi{Ptr: 4}).Stmts {
		for _, wrong := range wrongStmts() {
			but(func(p *api.Program) { wrong(&p.Stmts[i], i) })
		}
	}
	for _, main := range wrongLists(Whole(api.Abi{Ptr: 4}).Main) {
		but(func(p *api.Program) { p.Main = main })
	}
	return l
}

func wrongExprs() []func(x *api.Expr, i int) {
	var l []func(x *api.Expr, i int)
	for _, op := range []int{api.ENone, api.ESame + 1, -1, math.MaxInt, math.MinInt} {
		l = append(l, func(x *api.Expr, i int) { x.Op = op })
	}
	for _, kind := range append(NotScalarKinds(), api.KU32, api.KI8) {
		l = append(l, func(x *api.Expr, i int) { x.Kind = kind })
	}
	for _, n := range []int{-1, 1 << 32, math.MaxInt, math.MinInt} {
		l = append(l,
			func(x *api.Expr, i int) { x.N = n },
			func(x *api.Expr, i int) { x.A = n },
			func(x *api.Expr, i int) { x.B = n },
		)
	}
	return append(l,
		func(x *api.Expr, i int) { x.A = i + 1 },
		func(x *api.Expr, i int) { x.B = i + 1 },
		func(x *api.Expr, i int) {
			if x.A = i; i == 0 {
				x.A = 1
			}
		},
	)
}

func wrongStmts() []func(s *api.Stmt, i int) {
	var l []func(s *api.Stmt, i int)
	for _, op := range []int{api.SNone, api.SStop + 1, -1, math.MaxInt, math.MinInt} {
		l = append(l, func(s *api.Stmt, i int) { s.Op = op })
	}
	for _, n := range []int{-1, api.MaxExprs, math.MaxInt, math.MinInt} {
		l = append(l,
			func(s *api.Stmt, i int) { s.To = n },
			func(s *api.Stmt, i int) { s.Kind = n },
			func(s *api.Stmt, i int) { s.E = n },
			func(s *api.Stmt, i int) { s.N = n },
		)
	}
	for _, more := range []int{0, 1, 14, 15, -1, math.MaxInt, math.MinInt} {
		l = append(l,
			func(s *api.Stmt, i int) { s.Body = append(s.Body, more) },
			func(s *api.Stmt, i int) { s.Else = append(s.Else, more) },
		)
	}
	return l
}

// wrongLists are a list's, but for one thing.
func wrongLists(l []int) [][]int {
	with := func(at int, n int) []int {
		return slices.Concat(l[:at], []int{n}, l[at:])
	}
	lists := [][]int{nil}
	for i := range l {
		lists = append(lists, slices.Delete(slices.Clone(l), i, i+1), with(i, l[i]), with(i, -1), with(i, 1000))
		if i > 0 {
			other := slices.Clone(l)
			other[i-1], other[i] = other[i], other[i-1]
			lists = append(lists, other)
		}
	}
	return append(lists, with(len(l), math.MaxInt), with(len(l), 1))
}
