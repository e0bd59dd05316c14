package check

import (
	"cellar/api"
	"cellar/word"
)

// value is an expression: its place, and of which kind it is.
type value struct {
	at   int
	kind int
}

// expr makes an expression behind all others, and tells its place.
func (m *maker) expr(x api.Expr) int {
	if m.wrong == api.OK {
		m.need(m.made.Add(1) <= api.MaxExprs, api.ErrLimit)
	}
	if m.wrong != api.OK {
		return 0
	}
	m.p.Exprs = append(m.p.Exprs, x)
	return len(m.p.Exprs) - 1
}

// count is a number of bytes.
func (m *maker) count(n int) int {
	return m.expr(api.Expr{Op: api.ENum, Kind: api.KI32, N: n})
}

func (m *maker) moved(at int, by int) int {
	return m.expr(api.Expr{Op: api.EMove, Kind: api.KPtr, A: at, B: by})
}

func (m *maker) value(i int) value {
	n := m.nodes[i]
	switch n.Op {
	case api.NNum:
		return m.number(n)
	case api.NRef:
		return value{m.place(n.Parts[0]).at, api.KPtr}
	case api.NCast:
		return m.cast(n)
	case api.NUn:
		return m.one(n)
	case api.NBin:
		return m.two(n)
	}
	p := m.place(i)
	m.need(isScalar(p.kind), api.ErrType)
	return value{m.expr(api.Expr{Op: api.ELoad, Kind: p.kind, A: p.at}), p.kind}
}

func (m *maker) number(n api.Node) value {
	kind := kindOf(n.Name)
	width, _ := word.Width(kind)
	m.need(n.N < 1<<width, api.ErrForm)
	return value{m.expr(api.Expr{Op: api.ENum, Kind: kind, N: n.N}), kind}
}

func (m *maker) cast(n api.Node) value {
	a, kind := m.value(n.Parts[0]), kindOf(n.Name)
	m.need(isNumbers(a.kind), api.ErrType)
	return value{m.expr(api.Expr{Op: api.ECast, Kind: kind, A: a.at}), kind}
}

func (m *maker) one(n api.Node) value {
	a := m.value(n.Parts[0])
	op, kind := ofOne(n.Name, a.kind)
	m.need(op != api.ENone, api.ErrType)
	return value{m.expr(api.Expr{Op: op, Kind: kind, A: a.at}), kind}
}

func (m *maker) two(n api.Node) value {
	a := m.value(n.Parts[0])
	b := m.value(n.Parts[1])
	op, kind := ofTwo(n.Name, a.kind, b.kind)
	m.need(op != api.ENone, api.ErrType)
	return value{m.expr(api.Expr{Op: op, Kind: kind, A: a.at, B: b.at}), kind}
}

// ofOne is what a sign ahead of an expression of a kind makes of it, and of which kind
// that is; ENone, if it makes nothing.
func ofOne(sign string, a int) (op int, kind int) {
	switch {
	case sign == "!":
		return api.EZero, api.KI32
	case !isNumbers(a):
		return api.ENone, api.KNone
	case sign == "-":
		return api.ENeg, a
	}
	return api.ENot, a
}

// ofTwo is likewise of a sign between expressions of two kinds.
func ofTwo(sign string, a int, b int) (op int, kind int) {
	switch {
	case a == api.KPtr:
		return ofPointer(sign, b)
	case a != b || !isNumbers(a):
		return api.ENone, api.KNone
	case sign == "==":
		return api.EEq, api.KI32
	case sign == "<":
		return api.ELess, api.KI32
	}
	return ofNumbers(sign), a
}

// ofPointer is of a pointer and something of kind b.
func ofPointer(sign string, b int) (op int, kind int) {
	switch {
	case sign == "+" && b == api.KI32:
		return api.EMove, api.KPtr
	case sign == "-" && b == api.KPtr:
		return api.EApart, api.KI32
	case sign == "==" && b == api.KPtr:
		return api.ESame, api.KI32
	}
	return api.ENone, api.KNone
}

// ofNumbers is asked only of signs that make of two numbers one of their kind.
func ofNumbers(sign string) int {
	switch sign {
	case "+":
		return api.EAdd
	case "-":
		return api.ESub
	case "*":
		return api.EMul
	case "/":
		return api.EDiv
	case "%":
		return api.ERem
	case "&":
		return api.EAnd
	case "|":
		return api.EOr
	case "^":
		return api.EXor
	case "<<":
		return api.EShl
	}
	return api.EShr
}

// kindOf is asked only of names of kinds.
func kindOf(name string) int {
	kind, _ := word.Kind(name)
	return kind
}

func isNumbers(kind int) bool {
	_, e := word.Width(kind)
	return e == api.OK
}

func isScalar(kind int) bool {
	return kind == api.KPtr || isNumbers(kind)
}

func hasFields(kind int) bool {
	return kind == api.KStruct || kind == api.KUnion
}
