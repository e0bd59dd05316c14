package run

import (
	"sync"

	"cellar/alu"
	"cellar/api"
	"cellar/mem"
)

// values are what expressions are in one memory.
type values struct {
	*machine
	each []value
}

// value is made once: others that are made of it may be many, and these again.
type value struct {
	made   sync.Once
	scalar api.Scalar
	bad    int
}

func (m *machine) values() *values {
	return &values{machine: m, each: make([]value, len(m.Exprs))}
}

// of is the scalar that expression i is, or what goes wrong.
func (v *values) of(i int) (api.Scalar, int) {
	x := &v.each[i]
	x.made.Do(func() { x.scalar, x.bad = v.work(v.Exprs[i]) })
	return x.scalar, x.bad
}

// work takes A ahead of B: what goes wrong first is told.
func (v *values) work(x api.Expr) (api.Scalar, int) {
	switch x.Op {
	case api.ENum:
		return api.Scalar{Ptr: x.Kind == api.KPtr, N: x.N}, api.BadNone
	case api.EAddr:
		return pointer(x.N), api.BadNone
	}
	a, bad := v.of(x.A)
	if bad != api.BadNone {
		return api.Scalar{}, bad
	}
	if x.Op <= api.EZero {
		return v.one(x, a)
	}
	b, bad := v.of(x.B)
	if bad != api.BadNone {
		return api.Scalar{}, bad
	}
	return v.two(x, a, b)
}

// one is x, made of a.
func (v *values) one(x api.Expr, a api.Scalar) (api.Scalar, int) {
	kind := v.Exprs[x.A].Kind
	switch {
	case x.Op == api.ELoad:
		s, bad, _ := mem.Load(v.Abi, v.blocks, a, x.Kind)
		return s, bad
	case x.Op == api.ECast:
		n, _ := alu.Cast(kind, x.Kind, a.N)
		return number(n), api.BadNone
	case kind == api.KPtr:
		n, _ := mem.Same(a, pointer(0))
		return number(n), api.BadNone
	}
	n, bad, _ := alu.One(x.Op, kind, a.N)
	return number(n), bad
}

// two is x, made of a and b.
func (v *values) two(x api.Expr, a api.Scalar, b api.Scalar) (api.Scalar, int) {
	switch x.Op {
	case api.EMove:
		s, bad, _ := mem.Move(v.blocks, a, b.N)
		return s, bad
	case api.EApart:
		n, bad, _ := mem.Apart(v.blocks, a, b)
		return number(n), bad
	case api.ESame:
		n, _ := mem.Same(a, b)
		return number(n), api.BadNone
	}
	n, bad, _ := alu.Two(x.Op, v.Exprs[x.A].Kind, a.N, b.N)
	return number(n), bad
}

func number(n int) api.Scalar {
	return api.Scalar{N: n}
}

// pointer is the one to a block's begin; null's is null.
func pointer(block int) api.Scalar {
	return api.Scalar{Ptr: true, Block: block}
}

// wrapped is n as a number of a kind, of which none has more than 32 bits.
func wrapped(kind int, n int) api.Scalar {
	n, _ = alu.Cast(api.KU32, kind, n&(1<<32-1))
	return number(n)
}
