package prog

import (
	"sync"
	"sync/atomic"

	"cellar/api"
	"cellar/word"
)

// program is what one call is of.
type program struct {
	api.Program

	gone   sync.Once    // the way through all statements: it is asked whether all is in order, and how deep they stand
	met    atomic.Int32 // how many statements lie behind on this way
	orders bool
	inner  []int
	made   []bool // which blocks a statement on the way makes
}

func take(p api.Program) *program {
	return &program{Program: p}
}

func (p *program) mayBe() bool {
	if _, e := word.Size(p.Abi, api.KPtr); e != api.OK {
		return false
	}
	return p.haveSizes() && p.haveExprs() && p.haveStmts() && p.stand()
}

func (p *program) haveSizes() bool {
	return areSizes(p.Vars, api.MaxVars) && areSizes(p.News, api.MaxNews)
}

func areSizes(l []int, most int) bool {
	if len(l) > most {
		return false
	}
	for _, n := range l {
		if n < 1 || n > api.MaxSize {
			return false
		}
	}
	return true
}

func (p *program) haveExprs() bool {
	if len(p.Exprs) > api.MaxExprs {
		return false
	}
	for i, x := range p.Exprs {
		if !p.isExpr(x, i) {
			return false
		}
	}
	return true
}

func (p *program) haveStmts() bool {
	if len(p.Stmts) > api.MaxStmts {
		return false
	}
	for _, s := range p.Stmts {
		if !p.isStmt(s) {
			return false
		}
	}
	return true
}

func (p *program) isVar(block int) bool {
	return block >= 1 && block <= len(p.Vars)
}

func (p *program) isNew(block int) bool {
	return block > len(p.Vars) && block <= len(p.Vars)+len(p.News)
}

// stand is whether each statement stands once, where a text would have it.
func (p *program) stand() bool {
	p.gone.Do(p.goThrough)
	return p.orders
}

func (p *program) depths() []int {
	p.gone.Do(p.goThrough)
	return p.inner
}

func (p *program) goThrough() {
	p.inner = make([]int, len(p.Stmts))
	p.made = make([]bool, 1+len(p.Vars)+len(p.News))
	p.orders = p.goOn(p.Main, 0, false) && p.next() == len(p.Stmts)
}

func (p *program) next() int {
	return int(p.met.Load())
}

// goOn goes through a list that stands in so many bodies, and says whether each of it is
// the one that comes next; it ends, as none comes twice.
func (p *program) goOn(l []int, deep int, looped bool) bool {
	if len(l) > 0 && deep > api.MaxNest {
		return false
	}
	for _, i := range l {
		if i != p.next() || i >= len(p.Stmts) {
			return false
		}
		p.met.Add(1)
		p.inner[i] = deep
		s := p.Stmts[i]
		if s.Op == api.SNew && (looped || !p.makes(s.N)) {
			return false
		}
		if !p.goOn(s.Body, deep+1, looped || s.Op == api.SWhile) || !p.goOn(s.Else, deep+1, looped) {
			return false
		}
	}
	return true
}

// makes is false of a block that another statement makes.
func (p *program) makes(block int) bool {
	again := p.made[block]
	p.made[block] = true
	return !again
}
