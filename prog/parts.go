package prog

import (
	"cellar/api"
	"cellar/bytes"
	"cellar/word"
)

func isPlace(i int, below int) bool {
	return i >= 0 && i < below
}

func isNumbers(kind int) bool {
	_, e := word.Width(kind)
	return e == api.OK
}

func isScalar(kind int) bool {
	return kind == api.KPtr || isNumbers(kind)
}

// kind is that of expression i, KNone unless it stands ahead of below.
func (p *program) kind(i int, below int) int {
	if !isPlace(i, below) {
		return api.KNone
	}
	return p.Exprs[i].Kind
}

// parts are the places of what an expression is made of.
func parts(x api.Expr) []int {
	switch {
	case hasTwo(x.Op):
		return []int{x.A, x.B}
	case hasOne(x.Op):
		return []int{x.A}
	}
	return nil
}

func hasOne(op int) bool {
	return op >= api.ELoad && op <= api.EZero
}

func hasTwo(op int) bool {
	return op >= api.EAdd && op <= api.ESame
}

// isExpr is whether x may stand at place i, behind others that may.
func (p *program) isExpr(x api.Expr, i int) bool {
	switch {
	case hasTwo(x.Op):
		return x.N == 0 && fitsTwo(x, p.kind(x.A, i), p.kind(x.B, i))
	case hasOne(x.Op):
		return x.N == 0 && x.B == 0 && fitsOne(x, p.kind(x.A, i))
	case x.A != 0 || x.B != 0:
		return false
	}
	return p.fitsNone(x)
}

func (p *program) fitsNone(x api.Expr) bool {
	switch x.Op {
	case api.ENum:
		return bytes.Check(x.Kind, api.Scalar{Ptr: x.Kind == api.KPtr, N: x.N}) == api.OK
	case api.EAddr:
		return x.Kind == api.KPtr && p.isVar(x.N)
	}
	return false
}

// fitsOne is whether x may be made of one of kind a.
func fitsOne(x api.Expr, a int) bool {
	switch x.Op {
	case api.ELoad:
		return isScalar(x.Kind) && a == api.KPtr
	case api.ECast:
		return isNumbers(x.Kind) && isNumbers(a)
	case api.EZero:
		return x.Kind == api.KI32 && isScalar(a)
	}
	return isNumbers(x.Kind) && a == x.Kind
}

// fitsTwo is whether x may be made of two of kinds a and b.
func fitsTwo(x api.Expr, a int, b int) bool {
	switch x.Op {
	case api.EEq, api.ELess:
		return x.Kind == api.KI32 && isNumbers(a) && a == b
	case api.EMove:
		return x.Kind == api.KPtr && a == api.KPtr && b == api.KI32
	case api.EApart, api.ESame:
		return x.Kind == api.KI32 && a == api.KPtr && b == api.KPtr
	}
	return isNumbers(x.Kind) && a == x.Kind && b == x.Kind
}

// isStmt is whether s may be, wherever it stands.
func (p *program) isStmt(s api.Stmt) bool {
	to, e := p.kind(s.To, len(p.Exprs)), p.kind(s.E, len(p.Exprs))
	if s.Op != api.SIf && len(s.Else) > 0 || s.Op != api.SIf && s.Op != api.SWhile && len(s.Body) > 0 {
		return false
	}
	switch s.Op {
	case api.SSet:
		return s.N == 0 && to == api.KPtr && isScalar(s.Kind) && e == s.Kind
	case api.SRead:
		return s.E == 0 && s.N == 0 && to == api.KPtr && isNumbers(s.Kind)
	case api.SNew:
		return s.Kind == 0 && s.E == 0 && to == api.KPtr && p.isNew(s.N)
	case api.SFree:
		return s.To == 0 && s.Kind == 0 && s.N == 0 && e == api.KPtr
	case api.SIf, api.SWhile:
		return s.To == 0 && s.Kind == 0 && s.N == 0 && e == api.KI32
	case api.SStop:
		return s.To == 0 && s.Kind == 0 && s.E == 0 && s.N == 0
	}
	return false
}
