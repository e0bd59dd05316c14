package prog_test

import (
	"math"
	"reflect"
	"slices"
	"testing"

	"cellar/api"
	"cellar/prog"
	"cellar/samples"
)

// The face: each line stops compiling if a signature changes.
var (
	_ func(api.Program) api.Errno               = prog.Check
	_ func(api.Program) ([]int, api.Errno)      = prog.Inner
	_ func(api.Program) ([]int, api.Errno)      = prog.Loops
	_ func(api.Program) ([]int, api.Errno)      = prog.Kinds
	_ func(api.Program, int) ([]int, api.Errno) = prog.Uses
)

var little = api.Abi{Ptr: 4}

// P12.1, Check: the chapter's example, and programs that may be, each op among them.
func TestCheck(t *testing.T) {
	if e := prog.Check(api.Program{Abi: little}); e != api.OK {
		t.Errorf("without statements: %d", e)
	}
	for i, p := range samples.Programs() {
		if e := prog.Check(p); e != api.OK {
			t.Errorf("%d: Check(%v) = %d", i, p, e)
		}
	}
}

// P12.1, P12.2: of a program that may not be, just the error is told, of whatever place.
func TestNotPrograms(t *testing.T) {
	for i, p := range samples.NotPrograms() {
		if e := prog.Check(p); e != api.ErrForm {
			t.Errorf("%d: Check(%v) = %d", i, p, e)
		}
		for name, of := range map[string]func(api.Program) ([]int, api.Errno){"Inner": prog.Inner, "Loops": prog.Loops, "Kinds": prog.Kinds} {
			if l, e := of(p); len(l) > 0 || e != api.ErrForm {
				t.Errorf("%d: %s(%v) = %v, %d", i, name, p, l, e)
			}
		}
		for _, x := range []int{0, 1, -1, api.MaxExprs, math.MaxInt} {
			if l, e := prog.Uses(p, x); len(l) > 0 || e != api.ErrForm {
				t.Errorf("%d: Uses(%v, %d) = %v, %d", i, p, x, l, e)
			}
		}
	}
}

// P12.1: how many blocks, of which sizes, from both sides of each edge.
func TestBlocks(t *testing.T) {
	for many := range 8 {
		row := slices.Repeat([]int{1}, many)
		if e := prog.Check(api.Program{Abi: little, Vars: row}); (e == api.OK) != (many <= 4) {
			t.Errorf("%d variables: %d", many, e)
		}
		if e := prog.Check(api.Program{Abi: little, News: row}); (e == api.OK) != (many <= 2) {
			t.Errorf("%d made blocks: %d", many, e)
		}
	}
	for size := -40; size < 80; size++ {
		fine := size >= 1 && size <= 32
		for at := range 3 {
			row := []int{1, 1, 1}
			row[at] = size
			if e := prog.Check(api.Program{Abi: little, Vars: row}); (e == api.OK) != fine {
				t.Errorf("variables %v: %d", row, e)
			}
		}
		for _, row := range [][]int{{size}, {size, 32}, {32, size}} {
			if e := prog.Check(api.Program{Abi: little, News: row}); (e == api.OK) != fine {
				t.Errorf("made blocks %v: %d", row, e)
			}
		}
	}
}

// P12.1, Inner, Loops: of all that stands in one another, with bodies and elses.
func TestInner(t *testing.T) {
	whole := samples.Whole(little)
	want := []int{0, 0, 0, 1, 1, 2, 2, 0, 1, 1, 1, 0, 0}
	if l, e := prog.Inner(whole); !slices.Equal(l, want) || e != api.OK {
		t.Errorf("Inner = %v, %d", l, e)
	}
	if l, e := prog.Loops(whole); !slices.Equal(l, []int{2, 12}) || e != api.OK {
		t.Errorf("Loops = %v, %d", l, e)
	}
	m := samples.NewMaker(little, nil, nil)
	n := m.Num(api.KI32, 0)
	var in func()
	deep := 0
	in = func() {
		if deep++; deep == api.MaxNest {
			m.Stop()
			m.While(n, nil)
			return
		}
		m.If(n, nil, in)
		m.While(n, func() { m.Stop() })
	}
	m.While(n, in)
	m.Stop()
	if l, e := prog.Inner(m.Done()); !slices.Equal(l, []int{0, 1, 2, 3, 4, 5, 5, 4, 5, 3, 4, 2, 3, 1, 2, 0}) || e != api.OK {
		t.Errorf("Inner = %v, %d", l, e)
	}
	if l, e := prog.Loops(m.Done()); !slices.Equal(l, []int{0, 6, 7, 9, 11, 13}) || e != api.OK {
		t.Errorf("Loops = %v, %d", l, e)
	}
}

// P12.1, Kinds: null's block, the variables', those that are made.
func TestKinds(t *testing.T) {
	for _, c := range []struct{ vars, news, want []int }{
		{nil, nil, []int{0}},
		{[]int{7}, nil, []int{0, 7}},
		{nil, []int{1, 32}, []int{0, 1, 32}},
		{[]int{5, 32, 1, 9}, []int{32, 2}, []int{0, 5, 32, 1, 9, 32, 2}},
	} {
		l, e := prog.Kinds(api.Program{Abi: little, Vars: c.vars, News: c.news})
		if !slices.Equal(l, c.want) || e != api.OK {
			t.Errorf("Kinds of %v, %v = %v, %d", c.vars, c.news, l, e)
		}
	}
}

// P12.2, Uses: each expression once, whatever shares it; a place that there is not.
func TestUses(t *testing.T) {
	m := samples.NewMaker(little, []int{8}, nil)
	at := m.Addr(1, 0)
	n := m.Load(api.KI32, at)
	m.Num(api.KI32, 9)
	twice := m.Two(api.EMul, api.KI32, n, n)
	far := m.Move(at, twice)
	m.Two(api.ESame, api.KI32, far, at)
	m.One(api.EZero, api.KI32, far)
	m.Num(api.KPtr, 0)
	p := m.Done()
	for x, want := range [][]int{{0}, {0, 1}, {2}, {0, 1, 3}, {0, 1, 3, 4}, {0, 1, 3, 4, 5}, {0, 1, 3, 4, 6}, {7}} {
		if l, e := prog.Uses(p, x); !slices.Equal(l, want) || e != api.OK {
			t.Errorf("Uses(%d) = %v, %d", x, l, e)
		}
	}
	for _, x := range []int{-1, len(p.Exprs), len(p.Exprs) + 1, 1000, math.MaxInt, math.MinInt} {
		if l, e := prog.Uses(p, x); len(l) > 0 || e != api.ErrNone {
			t.Errorf("Uses(%d) = %v, %d", x, l, e)
		}
	}
	if l, e := prog.Uses(api.Program{Abi: little}, 0); len(l) > 0 || e != api.ErrNone {
		t.Errorf("Uses(0) of none = %v, %d", l, e)
	}
}

// P12.2: of all expressions against the chapter's words.
func TestUsesAll(t *testing.T) {
	for _, p := range append(samples.Programs(), somePrograms(300)...) {
		for x := range p.Exprs {
			used := map[int]bool{}
			var use func(int)
			use = func(i int) {
				if used[i] {
					return
				}
				used[i] = true
				if s := signs[p.Exprs[i].Op]; s.a != "" {
					use(p.Exprs[i].A)
				}
				if s := signs[p.Exprs[i].Op]; s.b != "" {
					use(p.Exprs[i].B)
				}
			}
			use(x)
			var want []int
			for i := range p.Exprs {
				if used[i] {
					want = append(want, i)
				}
			}
			if l, e := prog.Uses(p, x); !slices.Equal(l, want) || e != api.OK {
				t.Fatalf("Uses(%v, %d) = %v, %d, want %v", p, x, l, e, want)
			}
		}
	}
}

// P12.3: Main's statements are in no body, all others are.
func TestMain(t *testing.T) {
	for _, p := range append(samples.Programs(), somePrograms(300)...) {
		l, e := prog.Inner(p)
		if len(l) != len(p.Stmts) || e != api.OK {
			t.Fatalf("Inner(%v) = %v, %d", p, l, e)
		}
		for i, n := range l {
			if (n == 0) != slices.Contains(p.Main, i) {
				t.Fatalf("Inner(%v) = %v", p, l)
			}
			for _, body := range [][]int{p.Stmts[i].Body, p.Stmts[i].Else} {
				for _, s := range body {
					if l[s] != n+1 {
						t.Fatalf("Inner(%v) = %v", p, l)
					}
				}
			}
		}
	}
}

// R2: what is told is new memory, spare room too; what is handed in stays.
func TestNewMemory(t *testing.T) {
	p := samples.Whole(little)
	old := samples.Clone(p)
	spoil := func(of func() ([]int, api.Errno)) {
		t.Helper()
		first, _ := of()
		want := slices.Clone(first)
		for i := range first[:cap(first)] {
			first[:cap(first)][i] = 77
		}
		if again, _ := of(); !slices.Equal(again, want) {
			t.Errorf("told %v, then %v", want, again)
		}
	}
	spoil(func() ([]int, api.Errno) { return prog.Inner(p) })
	spoil(func() ([]int, api.Errno) { return prog.Loops(p) })
	spoil(func() ([]int, api.Errno) { return prog.Kinds(p) })
	spoil(func() ([]int, api.Errno) { return prog.Uses(p, 30) })
	p.Vars = append(make([]int, 0, 50), p.Vars...)
	spoil(func() ([]int, api.Errno) { return prog.Kinds(p) })
	if spare := p.Vars[:10]; slices.Max(spare[len(p.Vars):]) != 0 {
		t.Errorf("spare room was written: %v", spare)
	}
	if !reflect.DeepEqual(p, old) {
		t.Errorf("handed in %v, left %v", old, p)
	}
}

// R1: calls at once tell the same.
func TestTogether(t *testing.T) {
	p := samples.Whole(little)
	inner, _ := prog.Inner(p)
	uses, _ := prog.Uses(p, 20)
	samples.Together(func() {
		if l, e := prog.Inner(p); !slices.Equal(l, inner) || e != api.OK {
			t.Errorf("Inner = %v, %d", l, e)
		}
		if l, e := prog.Uses(p, 20); !slices.Equal(l, uses) || e != api.OK {
			t.Errorf("Uses = %v, %d", l, e)
		}
	})
}
