package prog_test

import (
	"math/rand"
	"slices"
	"strings"
	"testing"

	"cellar/api"
	"cellar/prog"
	"cellar/samples"
)

func random(seed int) func() int {
	r := rand.New(rand.NewSource(int64(seed)))
	return func() int { return int(r.Int63()) }
}

// somePrograms are whatever programs.
func somePrograms(many int) []api.Program {
	var l []api.Program
	for i := range many {
		plan := samples.Plan{Loops: true, Reads: true, News: true, Wild: 10, Stmts: i % 30, Deep: 4, Filled: i%2 == 0}
		l = append(l, samples.Whatever(random(i), samples.Machines()[i%4], plan))
	}
	return l
}

// sign is which kinds an op has, and what it is made of: n is of numbers, p pointers, i
// KI32, x the op's own, y the other part's, * of any scalars.
type sign struct {
	kind, a, b string
	n          bool
}

// signs are chapter 12's words on expressions.
var signs = allSigns()

func allSigns() map[int]sign {
	m := map[int]sign{
		api.ENum: {kind: "*", n: true}, api.EAddr: {kind: "p", n: true},
		api.ELoad: {kind: "*", a: "p"}, api.ECast: {kind: "n", a: "n"}, api.EZero: {kind: "i", a: "*"},
		api.ENeg: {kind: "n", a: "x"}, api.ENot: {kind: "n", a: "x"},
		api.EEq: {kind: "i", a: "n", b: "y"}, api.ELess: {kind: "i", a: "n", b: "y"},
		api.EMove: {kind: "p", a: "p", b: "i"}, api.EApart: {kind: "i", a: "p", b: "p"}, api.ESame: {kind: "i", a: "p", b: "p"},
	}
	for _, op := range []int{api.EAdd, api.ESub, api.EMul, api.EDiv, api.ERem, api.EAnd, api.EOr, api.EXor, api.EShl, api.EShr} {
		m[op] = sign{kind: "n", a: "x", b: "x"}
	}
	return m
}

func isSo(s string, kind int, own int, other int) bool {
	numbers := slices.Contains(samples.Kinds(), kind)
	switch s {
	case "*":
		return numbers || kind == api.KPtr
	case "n":
		return numbers
	case "p":
		return kind == api.KPtr
	case "i":
		return kind == api.KI32
	case "x":
		return kind == own
	}
	return kind == other
}

// mayExpr is chapter 12's words on expression i.
func mayExpr(p api.Program, i int) bool {
	x := p.Exprs[i]
	s, ok := signs[x.Op]
	if !ok || !isSo(s.kind, x.Kind, 0, 0) {
		return false
	}
	kinds := [2]int{}
	for at, part := range []struct {
		s     string
		place int
	}{{s.a, x.A}, {s.b, x.B}} {
		if part.s == "" {
			if part.place != 0 {
				return false
			}
			continue
		}
		if part.place < 0 || part.place >= i {
			return false
		}
		kinds[at] = p.Exprs[part.place].Kind
		if !isSo(part.s, kinds[at], x.Kind, kinds[0]) {
			return false
		}
	}
	switch {
	case !s.n:
		return x.N == 0
	case x.Op == api.EAddr:
		return x.N >= 1 && x.N <= len(p.Vars)
	case x.Kind == api.KPtr:
		return x.N == 0
	}
	return x.N >= 0 && x.N < 1<<samples.Width(x.Kind)
}

// mayStmt is chapter 12's words on what a statement has, wherever it stands.
func mayStmt(p api.Program, s api.Stmt) bool {
	kind := func(i int) int {
		if i < 0 || i >= len(p.Exprs) {
			return -7
		}
		return p.Exprs[i].Kind
	}
	has := map[int]string{api.SSet: "tke", api.SRead: "tk", api.SNew: "tn", api.SFree: "e", api.SIf: "ebo", api.SWhile: "eb", api.SStop: ""}
	fields, ok := has[s.Op]
	for field, zero := range map[string]bool{"t": s.To == 0, "k": s.Kind == 0, "e": s.E == 0, "n": s.N == 0, "b": len(s.Body) == 0, "o": len(s.Else) == 0} {
		ok = ok && (zero || strings.Contains(fields, field))
	}
	if strings.Contains(fields, "t") {
		ok = ok && kind(s.To) == api.KPtr
	}
	switch s.Op {
	case api.SSet:
		ok = ok && isSo("*", s.Kind, 0, 0) && kind(s.E) == s.Kind
	case api.SRead:
		ok = ok && isSo("n", s.Kind, 0, 0)
	case api.SNew:
		ok = ok && s.N > len(p.Vars) && s.N <= len(p.Vars)+len(p.News)
	case api.SFree:
		ok = ok && kind(s.E) == api.KPtr
	case api.SIf, api.SWhile:
		ok = ok && kind(s.E) == api.KI32
	}
	return ok
}

// mayStand is chapter 12's words on where statements stand.
func mayStand(p api.Program) bool {
	lists := [][]int{p.Main}
	over := map[int]int{}
	for i, s := range p.Stmts {
		lists = append(lists, s.Body, s.Else)
		for _, in := range append(slices.Clone(s.Body), s.Else...) {
			over[in] = i
		}
	}
	times := map[int]int{}
	for _, l := range lists {
		for at, i := range l {
			if times[i]++; times[i] > 1 || i < 0 || i >= len(p.Stmts) || at > 0 && i <= l[at-1] {
				return false
			}
		}
	}
	if len(times) != len(p.Stmts) {
		return false
	}
	makes := map[int]bool{}
	for i, s := range p.Stmts {
		deep, looped := 0, false
		for in, ok := over[i]; ok; in, ok = over[in] {
			if deep++; deep > len(p.Stmts) {
				return false
			}
			looped = looped || p.Stmts[in].Op == api.SWhile
		}
		if deep > api.MaxNest || s.Op == api.SNew && (looped || makes[s.N]) {
			return false
		}
		makes[s.N] = s.Op == api.SNew || makes[s.N]
	}
	return inOrder(p)
}

// inOrder is asked only where each statement stands once.
func inOrder(p api.Program) bool {
	var all func(l []int) []int
	all = func(l []int) []int {
		var row []int
		for _, i := range l {
			row = slices.Concat(row, []int{i}, all(p.Stmts[i].Body), all(p.Stmts[i].Else))
		}
		return row
	}
	row := all(p.Main)
	return slices.IsSorted(row) && len(row) == len(p.Stmts)
}

// mayBe is chapter 12's words on programs.
func mayBe(p api.Program) bool {
	if p.Abi.Ptr != 2 && p.Abi.Ptr != 4 || len(p.Vars) > api.MaxVars || len(p.News) > api.MaxNews || len(p.Exprs) > api.MaxExprs || len(p.Stmts) > api.MaxStmts {
		return false
	}
	for _, n := range append(slices.Clone(p.Vars), p.News...) {
		if n < 1 || n > api.MaxSize {
			return false
		}
	}
	for i := range p.Exprs {
		if !mayExpr(p, i) {
			return false
		}
	}
	for _, s := range p.Stmts {
		if !mayStmt(p, s) {
			return false
		}
	}
	return mayStand(p)
}

func held(t *testing.T, p api.Program) bool {
	t.Helper()
	fine := mayBe(p)
	if e := prog.Check(p); (e == api.OK) != fine || !fine && e != api.ErrForm {
		t.Fatalf("Check(%+v) = %d, want %v", p, e, fine)
	}
	return fine
}

// base has an expression of each kind, and then one that moves, at places 0 to 7.
func base() api.Program {
	m := samples.NewMaker(little, []int{4, 8}, []int{4, 8})
	for _, kind := range samples.Kinds() {
		m.Num(kind, 7)
	}
	m.Move(m.Num(api.KPtr, 0), 5)
	return m.Done()
}

// P12.1: each expression of each op, kind, number and parts behind some of each kind.
func TestExprs(t *testing.T) {
	p := base()
	fine := 0
	p.Exprs = append(p.Exprs, api.Expr{})
	at := len(p.Exprs) - 1
	for op := -1; op <= api.ESame+1; op++ {
		for kind := -1; kind <= api.KPart+1; kind++ {
			for _, n := range []int{-1, 0, 1, 2, 3, 4, 5, 255, 256} {
				for a := -1; a <= at+1; a++ {
					for b := -1; b <= at+1; b++ {
						p.Exprs[at] = api.Expr{Op: op, Kind: kind, N: n, A: a, B: b}
						if held(t, p) {
							fine++
						}
					}
				}
			}
		}
	}
	// 6 kinds: numbers 8 or 9 each but 256 of two; null; 2 variables; loads 7 x 2, casts
	// 6 x 6, of one 2 x 6, questions 8, of two 10 x 6, 2 x 6; 2 moves; 2 x 4 of pointers.
	if want := 6*8 - 2 + 1 + 2 + 14 + 36 + 12 + 8 + 60 + 12 + 2 + 8; fine != want {
		t.Errorf("%d may be, want %d", fine, want)
	}
}

// P12.1: the edges of each kind's numbers, of whichever width.
func TestNumbers(t *testing.T) {
	for _, kind := range samples.ScalarKinds() {
		for bits := range 63 {
			for d := -2; d <= 2; d++ {
				for _, n := range []int{1<<bits + d, -(1<<bits + d)} {
					held(t, api.Program{Abi: little, Exprs: []api.Expr{{Op: api.ENum, Kind: kind, N: n}}})
				}
			}
		}
	}
}

// P12.1: each statement of each op and fields behind expressions of each kind.
func TestStmts(t *testing.T) {
	p := base()
	p.Stmts = []api.Stmt{{}, {Op: api.SStop}, {Op: api.SStop}}
	fine := 0
	lists := [][]int{nil, {1}, {2}, {1, 2}}
	for op := -1; op <= api.SStop+1; op++ {
		for to := -1; to <= len(p.Exprs); to++ {
			for kind := -1; kind <= api.KArray; kind++ {
				for x := -1; x <= len(p.Exprs); x++ {
					for n := -1; n <= 5; n++ {
						for i := range 16 {
							if i > 1 && i != 4 && (to > 0 || kind > 0 || n > 0) {
								continue // there are fields enough that are wrong
							}
							p.Stmts[0] = api.Stmt{Op: op, To: to, Kind: kind, E: x, N: n, Body: lists[i%4], Else: lists[i/4]}
							rest := [][]int{{0, 1, 2}, {0, 2}, {0, 1}, {0}}
							p.Main = rest[i%4|i/4]
							if held(t, p) {
								fine++
							}
						}
					}
				}
			}
		}
	}
	// sets 2 x 6 of numbers, 2 x 2 of pointers, reads 2 x 6, makes 2 x 2, frees 2, stops 1;
	// ifs have six ways to hold the rest, whiles three.
	if want := 16 + 12 + 4 + 2 + 1 + 6 + 3; fine != want {
		t.Errorf("%d may be, want %d", fine, want)
	}
}

// P12.1: wherever statements stand, all ways at random.
func TestStand(t *testing.T) {
	number := random(1)
	fine := 0
	for range 150000 {
		many := number()%4 + 1
		p := api.Program{Abi: little, News: []int{1, 1}, Exprs: []api.Expr{{Op: api.ENum, Kind: api.KI32}, {Op: api.ENum, Kind: api.KPtr}}}
		free := 0
		row := func() []int {
			var l []int
			for number()%3 > 0 {
				switch n := number() % 12; {
				case n > 0:
					l = append(l, free)
					free++
				default:
					l = append(l, number()%(many+2)-1)
				}
			}
			return l
		}
		p.Main = row()
		for range many {
			s := api.Stmt{Op: api.SIf}
			switch number() % 4 {
			case 0:
				s.Op = api.SWhile
			case 1:
				s = api.Stmt{Op: api.SNew, To: 1, N: number()%2 + 1}
			}
			if s.Op != api.SNew {
				s.Body = row()
			}
			if s.Op == api.SIf {
				s.Else = row()
			}
			p.Stmts = append(p.Stmts, s)
		}
		if held(t, p) {
			fine++
		}
	}
	if fine < 2000 {
		t.Errorf("only %d may be", fine)
	}
}

// P12.1: whatever programs, and the same with a few things changed.
func TestChanged(t *testing.T) {
	fine := 0
	for i, p := range somePrograms(1500) {
		if !held(t, p) {
			t.Fatalf("%d: %+v", i, p)
		}
		number := random(i)
		for range 12 {
			q := samples.Clone(p)
			change(&q, number)
			if held(t, q) {
				fine++
			}
		}
	}
	if fine < 1000 {
		t.Errorf("only %d may be", fine)
	}
}

func change(p *api.Program, number func() int) {
	n := number()%9 - 1
	switch number() % 6 {
	case 0:
		if len(p.Exprs) > 0 {
			x := &p.Exprs[number()%len(p.Exprs)]
			*[]*int{&x.Op, &x.Kind, &x.N, &x.A, &x.B}[number()%5] += n
		}
	case 1, 2:
		if len(p.Stmts) > 0 {
			s := &p.Stmts[number()%len(p.Stmts)]
			*[]*int{&s.Op, &s.To, &s.Kind, &s.E, &s.N}[number()%5] += n
		}
	case 3:
		if len(p.Stmts) > 0 {
			s := &p.Stmts[number()%len(p.Stmts)]
			s.Body, s.Else = s.Else, s.Body
		}
	case 4:
		lists := []*[]int{&p.Main}
		for i := range p.Stmts {
			lists = append(lists, &p.Stmts[i].Body, &p.Stmts[i].Else)
		}
		from, to := lists[number()%len(lists)], lists[number()%len(lists)]
		if k := len(*from); k > 0 {
			*to = append(*to, (*from)[k-1])
			*from = slices.Delete(*from, k-1, k)
		}
	case 5:
		p.Abi.Ptr += n % 3
	}
}
