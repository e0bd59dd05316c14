package check

import (
	"slices"

	"cellar/api"
	"cellar/lay"
	"cellar/tree"
)

// source is what a program is made of: a machine, and a tree that is right as far as it
// is to be told without its expressions.
type source struct {
	machine api.Abi
	nodes   []api.Node
	types   []api.Type
	names   []string // the declarations'
	vars    []int    // of which type each declaration is
}

func take(t []api.Node, a api.Abi) (*source, api.Errno) {
	types, vars, e := Types(t)
	if e != api.OK || lay.Check(a, nil) != api.OK {
		return nil, api.ErrForm
	}
	s := &source{machine: a, nodes: t, types: types, names: namesOf(t), vars: vars}
	switch {
	case s.hasTooMuch():
		return nil, api.ErrLimit
	case s.hasAlike():
		return nil, api.ErrName
	case lay.Check(a, types) != api.OK:
		return nil, api.ErrForm
	}
	return s, api.OK
}

// hasTooMuch is whether there is more of something than a program has.
func (s *source) hasTooMuch() bool {
	stmts, _ := tree.Count(s.nodes)
	return len(s.vars) > api.MaxVars || s.news() > api.MaxNews || len(s.types) > api.MaxTypes || stmts > api.MaxStmts || s.depth() > api.MaxNest
}

func (s *source) news() int {
	met := 0
	for _, n := range s.nodes {
		if n.Op == api.NNew {
			met++
		}
	}
	return met
}

// depth is how many blocks with statements stand in one another.
func (s *source) depth() int {
	deep := make([]int, len(s.nodes))
	for i, n := range s.nodes {
		for _, part := range n.Parts {
			deep[i] = max(deep[i], deep[part])
		}
		if n.Op == api.NBlock && len(n.Parts) > 0 {
			deep[i]++
		}
	}
	return deep[len(deep)-1]
}

// hasAlike is whether two declarations, or two fields side by side, have one name.
func (s *source) hasAlike() bool {
	if areAlike(s.names) {
		return true
	}
	return slices.ContainsFunc(s.types, func(t api.Type) bool { return areAlike(t.Names) })
}

func namesOf(t []api.Node) []string {
	var l []string
	for _, n := range t {
		if n.Op == api.NVar {
			l = append(l, n.Name)
		}
	}
	return l
}

// areAlike is whether two of some names are.
func areAlike(names []string) bool {
	for i, s := range names {
		if slices.Contains(names[:i], s) {
			return true
		}
	}
	return false
}

// typesOf is asked only of a tree: what a type is made of stands ahead of it.
func typesOf(t []api.Node) (l []api.Type, vars []int) {
	places := make([]int, len(t)) // which type a node is, or a field is of
	for i, n := range t {
		switch n.Op {
		case api.NKind, api.NArray, api.NStruct, api.NUnion:
			places[i] = len(l)
			l = append(l, typeOf(t, n, places))
		case api.NField:
			places[i] = places[n.Parts[0]]
		case api.NVar:
			vars = append(vars, places[n.Parts[0]])
		}
	}
	return l, vars
}

func typeOf(t []api.Node, n api.Node, places []int) api.Type {
	switch n.Op {
	case api.NKind:
		return api.Type{Kind: kindOf(n.Name)}
	case api.NArray:
		return api.Type{Kind: api.KArray, N: n.N, Of: places[n.Parts[0]]}
	case api.NStruct:
		return fieldsOf(t, n, places, api.KStruct)
	}
	return fieldsOf(t, n, places, api.KUnion)
}

func fieldsOf(t []api.Node, n api.Node, places []int, kind int) api.Type {
	x := api.Type{Kind: kind}
	for _, field := range n.Parts {
		x.Names = append(x.Names, t[field].Name)
		x.Parts = append(x.Parts, places[field])
	}
	return x
}
