package lay

import (
	"sync"
	"sync/atomic"

	"cellar/api"
	"cellar/word"
)

// ground is what one call is of: a machine, types, and how each one is laid out.
type ground struct {
	machine api.Abi
	types   []api.Type
	plots   []plot
}

// plot is how a type is laid out.
type plot struct {
	laid    sync.Once // a type may be a part of many others
	size    int
	align   int
	scalars atomic.Int64
	pieces  []piece // an array's items, a struct's or a union's fields
}

// piece is a part of a type: of which type it is, and where it begins.
type piece struct {
	of int
	at int
}

// survey is of types that may be: of none else it ends well. It goes no further than
// to the first one that is too great, so that those of which one is made never are.
func survey(a api.Abi, l []api.Type) (*ground, api.Errno) {
	if !isMachine(a) || !haveForm(l) {
		return nil, api.ErrForm
	}
	g := &ground{machine: a, types: l, plots: make([]plot, len(l))}
	for i := range l {
		if p := g.plot(i); p.size > api.MaxSize || p.scalars.Load() > api.MaxScalars {
			return nil, api.ErrForm
		}
	}
	return g, api.OK
}

// surveyFor is survey, where type i is asked for.
func surveyFor(a api.Abi, l []api.Type, i int) (*ground, api.Errno) {
	g, e := survey(a, l)
	if e != api.OK {
		return nil, e
	}
	if i < 0 || i >= len(l) {
		return nil, api.ErrNone
	}
	return g, api.OK
}

// plot is asked only of types that have the form: so parts stand ahead, and it ends.
func (g *ground) plot(i int) *plot {
	p := &g.plots[i]
	p.laid.Do(func() { g.lay(p, g.types[i]) })
	return p
}

func (g *ground) lay(p *plot, t api.Type) {
	switch t.Kind {
	case api.KArray:
		g.layRow(p, items(t), false)
	case api.KStruct:
		g.layRow(p, t.Parts, false)
	case api.KUnion:
		g.layRow(p, t.Parts, true)
	default:
		p.size, _ = word.Size(g.machine, t.Kind)
		p.align = p.size
		p.scalars.Store(1)
	}
}

// layRow lays parts one behind the other, or all at the begin. An array's items may be
// laid as fields are: a size is a multiple of its align, so that no gap is between them.
func (g *ground) layRow(p *plot, parts []int, atBegin bool) {
	end, align := 0, 1
	for _, of := range parts {
		part := g.plot(of)
		at := 0
		if !atBegin {
			at = upTo(end, part.align)
		}
		p.pieces = append(p.pieces, piece{of, at})
		p.scalars.Add(part.scalars.Load())
		end = max(end, at+part.size)
		align = max(align, part.align)
	}
	p.size, p.align = upTo(end, align), align
}

// gather appends all scalars in type i, which begins at a place.
func (g *ground) gather(found []api.Token, i int, at int) []api.Token {
	if name, e := word.Name(g.types[i].Kind); e == api.OK {
		return append(found, api.Token{Text: name, At: at})
	}
	for _, x := range g.plot(i).pieces {
		found = g.gather(found, x.of, at+x.at)
	}
	return found
}

// items are the types of an array's items.
func items(t api.Type) []int {
	parts := make([]int, t.N)
	for n := range parts {
		parts[n] = t.Of
	}
	return parts
}

// upTo is the next multiple of align that is not below n.
func upTo(n int, align int) int {
	return (n + align - 1) / align * align
}
