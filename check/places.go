package check

import (
	"slices"

	"cellar/api"
	"cellar/lay"
)

// place is where something lies: its address, and of which type it is. Of behind a
// pointer there is just a kind; a tree need not have a type of it.
type place struct {
	at   int
	kind int
	of   int // which one of the types; nothing of a scalar
}

// typed is a place of one of the types.
func (m *maker) typed(at int, of int) place {
	return place{at: at, kind: m.types[of].Kind, of: of}
}

func (m *maker) place(i int) place {
	n := m.nodes[i]
	switch n.Op {
	case api.NDeref:
		return m.target(n)
	case api.NDot:
		return m.field(m.place(n.Parts[0]), n.Name)
	case api.NAt:
		return m.item(m.place(n.Parts[0]), n.Parts[1])
	}
	return m.variable(n.Name)
}

func (m *maker) variable(name string) place {
	k := slices.Index(m.names, name)
	m.need(k >= 0, api.ErrName)
	if k < 0 {
		return place{}
	}
	return m.typed(m.expr(api.Expr{Op: api.EAddr, Kind: api.KPtr, N: k + 1}), m.vars[k])
}

func (m *maker) target(n api.Node) place {
	e := m.value(n.Parts[0])
	m.need(e.kind == api.KPtr, api.ErrType)
	return place{at: e.at, kind: kindOf(n.Name)}
}

func (m *maker) field(p place, name string) place {
	m.need(hasFields(p.kind), api.ErrType)
	if !hasFields(p.kind) {
		return place{}
	}
	off, of, e := lay.Field(m.machine, m.types, p.of, name)
	m.need(e == api.OK, e)
	if e != api.OK {
		return place{}
	}
	return m.typed(m.moved(p.at, m.count(off)), of)
}

// item is the one of which expression i tells how many are ahead.
func (m *maker) item(p place, i int) place {
	m.need(p.kind == api.KArray, api.ErrType)
	if p.kind != api.KArray {
		return place{}
	}
	n := m.value(i)
	m.need(n.kind == api.KI32, api.ErrType)
	of := m.types[p.of].Of
	size, _ := lay.Size(m.machine, m.types, of)
	by := m.expr(api.Expr{Op: api.EMul, Kind: api.KI32, A: n.at, B: m.count(size)})
	return m.typed(m.moved(p.at, by), of)
}
