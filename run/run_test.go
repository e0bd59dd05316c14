package run_test

import (
	"math"
	"slices"
	"testing"

	"cellar/api"
	"cellar/run"
	"cellar/samples"
)

// The face: each line stops compiling if a signature changes.
var (
	_ func(api.Program) (api.State, api.Errno)                        = run.Begin
	_ func(api.Program, api.State) api.Errno                          = run.Check
	_ func(api.Program, api.State, int) (api.Scalar, int, api.Errno)  = run.Eval
	_ func(api.Program, api.State, api.Script) (api.State, api.Errno) = run.Step
	_ func(api.Program, api.Script, int) ([]api.State, api.Errno)     = run.Run
	_ func(api.State) bool                                            = run.Ended
)

var little = api.Abi{Ptr: 4}

var (
	number  = samples.Number
	pointer = samples.Pointer
	null    = samples.Null
	digits  = samples.Digits
	parts   = samples.Parts
	room    = samples.Room
	alike   = samples.AlikeStates
)

func nothings(many int) []api.Byte {
	return make([]api.Byte, many)
}

func row(l ...[]api.Byte) []api.Byte {
	return slices.Concat(l...)
}

func begin(t *testing.T, p api.Program) api.State {
	t.Helper()
	s, e := run.Begin(p)
	if e != api.OK {
		t.Fatalf("Begin(%+v) = %d", p, e)
	}
	return s
}

// told is Step of what may be.
func told(t *testing.T, p api.Program, s api.State, script api.Script) api.State {
	t.Helper()
	next, e := run.Step(p, s, script)
	if e != api.OK {
		t.Fatalf("Step(%+v, %+v, %+v) = %d", p, s, script, e)
	}
	return next
}

// all is Run of what may be.
func all(t *testing.T, p api.Program, script api.Script, n int) []api.State {
	t.Helper()
	l, e := run.Run(p, script, n)
	if e != api.OK {
		t.Fatalf("Run(%+v, %+v, %d) = %d", p, script, n, e)
	}
	return l
}

// P13.1, Begin: written out.
func TestBegin(t *testing.T) {
	s := begin(t, samples.Whole(little))
	want := api.State{
		Blocks: []api.Block{{}, room(nothings(8)...), room(nothings(4)...), room(nothings(1)...), {}, {}},
		Next:   []int{0, 1, 2, 7, 11, 12},
	}
	if !alike(s, want) {
		t.Errorf("Begin = %+v, want %+v", s, want)
	}
	if s := begin(t, api.Program{Abi: little}); !alike(s, api.State{Blocks: []api.Block{{}}}) {
		t.Errorf("Begin of nothing = %+v", s)
	}
	edge := api.Program{Abi: little, Vars: []int{32, 1, 32, 1}, News: []int{32, 1}}
	want = api.State{Blocks: []api.Block{{}, room(nothings(32)...), room(nothings(1)...), room(nothings(32)...), room(nothings(1)...), {}, {}}}
	if s := begin(t, edge); !alike(s, want) {
		t.Errorf("Begin = %+v, want %+v", s, want)
	}
}

// P13.1: of all programs, against the chapter's words; it may be.
func TestBeginAll(t *testing.T) {
	for _, p := range append(samples.Programs(), somePrograms(300)...) {
		s := begin(t, p)
		if want := begun(p, api.Script{}).state(); !alike(s, want) {
			t.Fatalf("Begin(%+v) = %+v, want %+v", p, s, want)
		}
		if e := run.Check(p, s); e != api.OK {
			t.Fatalf("Check(%+v, %+v) = %d", p, s, e)
		}
	}
}

// P13.1 to P13.3: of a program that may not be just the error is told, whatever else.
func TestNotPrograms(t *testing.T) {
	fine := begin(t, samples.Whole(little))
	for i, p := range samples.NotPrograms() {
		if s, e := run.Begin(p); e != api.ErrForm || !alike(s, api.State{}) {
			t.Errorf("%d: Begin = %+v, %d", i, s, e)
		}
		for _, s := range []api.State{fine, {}, {Blocks: []api.Block{{}}}} {
			if e := run.Check(p, s); e != api.ErrForm {
				t.Errorf("%d: Check = %d", i, e)
			}
			for _, x := range []int{0, -1, api.MaxExprs} {
				if v, bad, e := run.Eval(p, s, x); e != api.ErrForm || bad != 0 || v != number(0) {
					t.Errorf("%d: Eval = %v, %d, %d", i, v, bad, e)
				}
			}
			if s, e := run.Step(p, s, api.Script{}); e != api.ErrForm || !alike(s, api.State{}) {
				t.Errorf("%d: Step = %+v, %d", i, s, e)
			}
		}
		for _, n := range []int{-1, 0, 1, api.MaxSteps, api.MaxSteps + 1} {
			if l, e := run.Run(p, api.Script{}, n); e != api.ErrForm || len(l) > 0 {
				t.Errorf("%d: Run = %v, %d", i, l, e)
			}
		}
	}
}

// P13.3, Run: how many steps may be, from both sides of each edge.
func TestRunSteps(t *testing.T) {
	m := samples.NewMaker(little, nil, nil)
	m.While(m.Num(api.KI32, 1), nil)
	p := m.Done()
	for _, n := range []int{-1, -2, api.MaxSteps + 1, math.MaxInt, math.MinInt} {
		if l, e := run.Run(p, api.Script{}, n); e != api.ErrForm || len(l) > 0 {
			t.Errorf("Run of %d = %v, %d", n, l, e)
		}
	}
	for n := 0; n <= api.MaxSteps; n++ {
		l := all(t, p, api.Script{}, n)
		if len(l) != n+1 {
			t.Fatalf("Run of %d: %d states", n, len(l))
		}
		for _, s := range l {
			if !alike(s, begin(t, p)) || run.Ended(s) {
				t.Fatalf("Run of %d: %+v", n, s)
			}
		}
	}
}

// P13.3, Run: till it has ended: at once, by a stop, behind the last one, by what goes wrong.
func TestRunEnds(t *testing.T) {
	if l := all(t, api.Program{Abi: little}, api.Script{}, api.MaxSteps); len(l) != 1 {
		t.Errorf("Run of nothing = %v", l)
	}
	m := samples.NewMaker(little, []int{1}, nil)
	at := m.Addr(1, 0)
	m.Set(at, api.KU8, m.Num(api.KU8, 5))
	m.Set(m.Move(at, m.Num(api.KI32, 1)), api.KU8, m.Num(api.KU8, 6))
	m.Set(at, api.KU8, m.Num(api.KU8, 7))
	blocks := func(l ...api.Byte) []api.Block { return []api.Block{{}, room(l...)} }
	want := []api.State{
		{Blocks: blocks(nothings(1)...), Next: []int{0, 1, 2}},
		{Blocks: blocks(digits(5)...), Next: []int{1, 2}},
		{Blocks: blocks(digits(5)...), Next: []int{2}, Bad: api.Alarm{At: 1, What: api.BadBounds}},
	}
	for n := range 6 {
		if l := all(t, m.Done(), api.Script{}, n); !slices.EqualFunc(l, want[:min(n+1, 3)], alike) {
			t.Errorf("Run of %d = %+v", n, l)
		}
	}
	m = samples.NewMaker(little, []int{1}, nil)
	m.Read(m.Addr(1, 0), api.KU8)
	m.Stop()
	m.Free(0)
	want = []api.State{
		{Blocks: blocks(nothings(1)...), Next: []int{0, 1, 2}},
		{Blocks: blocks(digits(9)...), Next: []int{1, 2}, Inputs: 1},
		{Blocks: blocks(digits(9)...), Inputs: 1},
	}
	for n := range 6 {
		if l := all(t, m.Done(), api.Script{Reads: []int{9}}, n); !slices.EqualFunc(l, want[:min(n+1, 3)], alike) {
			t.Errorf("Run of %d = %+v", n, l)
		}
	}
}

// P13.3, Ended: whether nothing comes next, or something went wrong, of whatever state.
func TestEnded(t *testing.T) {
	blocks := []api.Block{{}, room(digits(1)...)}
	for _, c := range []struct {
		s    api.State
		want bool
	}{
		{api.State{}, true},
		{api.State{Next: []int{}}, true},
		{api.State{Blocks: blocks, Inputs: 3}, true},
		{api.State{Next: []int{0}}, false},
		{api.State{Blocks: blocks, Next: []int{3, 3, 3}, Inputs: 3}, false},
		{api.State{Next: []int{-1}}, false},
		{api.State{Next: []int{0}, Bad: api.Alarm{What: api.BadBounds}}, true},
		{api.State{Next: []int{0, 1}, Bad: api.Alarm{At: 1, What: api.BadFree}}, true},
		{api.State{Bad: api.Alarm{At: 1, What: api.BadFree}}, true},
	} {
		if is := run.Ended(c.s); is != c.want {
			t.Errorf("Ended(%+v) = %v", c.s, is)
		}
	}
}

// P13.4: a state that has ended stays, however it ended, whatever comes.
func TestEndedStays(t *testing.T) {
	stayed := 0
	for i, p := range append(samples.Programs(), somePrograms(300)...) {
		l := all(t, p, samples.Scripts()[i%6], 200)
		last := l[len(l)-1]
		if !run.Ended(last) {
			continue
		}
		stayed++
		for _, script := range samples.Scripts() {
			if s := told(t, p, last, script); !alike(s, last) {
				t.Fatalf("Step(%+v, %+v) = %+v", p, last, s)
			}
		}
		other := samples.CloneState(l[0])
		other.Next, other.Bad = slices.Repeat([]int{0}, len(p.Stmts)), last.Bad
		if other.Bad.What > 0 && !alike(told(t, p, other, api.Script{}), other) {
			t.Fatalf("Step(%+v, %+v) does not stay", p, other)
		}
	}
	if stayed < 200 {
		t.Errorf("only %d ended", stayed)
	}
}

// spoil writes over all that a state has, its spare room, too.
func spoil(s api.State) {
	for _, b := range s.Blocks[:cap(s.Blocks)] {
		l := b.Bytes[:cap(b.Bytes)]
		for i := range l {
			l[i] = samples.Digit(99)
		}
	}
	l := s.Blocks[:cap(s.Blocks)]
	for i := range l {
		l[i] = api.Block{State: api.Failed}
	}
	next := s.Next[:cap(s.Next)]
	for i := range next {
		next[i] = 77
	}
}

// R2: what is told is new memory, spare room too; no two lists of one answer share any;
// what is handed in stays.
func TestNewMemory(t *testing.T) {
	p := samples.Whole(little)
	old := samples.Clone(p)
	script := api.Script{Reads: append(make([]int, 0, 9), 4), News: append(make([]int, 0, 9), 1)}
	spoil(begin(t, p))
	want := all(t, p, script, 30)
	for i := range want {
		l := all(t, p, script, 30)
		spoil(l[i])
		for j := range l {
			if j != i && !alike(l[j], want[j]) {
				t.Fatalf("state %d hangs on state %d", j, i)
			}
		}
	}
	for i, s := range want {
		kept := samples.CloneState(s)
		next := told(t, p, s, script)
		if i+1 < len(want) && !alike(next, want[i+1]) {
			t.Fatalf("Step(%+v) = %+v, want %+v", s, next, want[i+1])
		}
		spoil(next)
		if !alike(s, kept) {
			t.Fatalf("handed in %+v, left %+v", kept, s)
		}
	}
	shared := samples.CloneState(want[0])
	shared.Next = append(make([]int, 0, 50), shared.Next...)
	shared.Blocks = append(make([]api.Block, 0, 50), shared.Blocks...)
	one := append(make([]api.Byte, 0, 50), samples.Digit(1))
	shared.Blocks[3].Bytes = one
	kept := samples.CloneState(shared)
	for range 30 {
		next := told(t, p, shared, script)
		spoil(told(t, p, shared, script))
		if !alike(shared, kept) || shared.Next[:50][49] != 0 || shared.Blocks[:50][49].State != 0 || one[:50][49].State != 0 {
			t.Fatalf("handed in %+v, left %+v", kept, shared)
		}
		shared, kept = next, samples.CloneState(next)
		shared.Next = append(make([]int, 0, 50), shared.Next...)
		shared.Blocks = append(make([]api.Block, 0, 50), shared.Blocks...)
	}
	if !samePrograms(p, old) || script.Reads[:9][8] != 0 || script.News[0] != 1 {
		t.Errorf("handed in %+v, left %+v", old, p)
	}
}

// R2: nothing is written behind the end of a list that is handed in.
func TestSpareRoom(t *testing.T) {
	p := samples.Whole(little)
	lists := []*[]int{&p.Vars, &p.News, &p.Main}
	for i := range p.Stmts {
		lists = append(lists, &p.Stmts[i].Body, &p.Stmts[i].Else)
	}
	for _, l := range lists {
		*l = append(make([]int, 0, len(*l)+9), *l...)
	}
	for _, s := range all(t, p, api.Script{}, 40) {
		told(t, p, s, api.Script{})
	}
	for i, l := range lists {
		for _, n := range (*l)[len(*l):cap(*l)] {
			if n != 0 {
				t.Errorf("list %d: %v", i, (*l)[:cap(*l)])
			}
		}
	}
}

func samePrograms(p api.Program, q api.Program) bool {
	stmts := slices.EqualFunc(p.Stmts, q.Stmts, func(s api.Stmt, t api.Stmt) bool {
		return s.Op == t.Op && s.To == t.To && s.Kind == t.Kind && s.E == t.E && s.N == t.N && slices.Equal(s.Body, t.Body) && slices.Equal(s.Else, t.Else)
	})
	return stmts && p.Abi == q.Abi && slices.Equal(p.Vars, q.Vars) && slices.Equal(p.News, q.News) && slices.Equal(p.Exprs, q.Exprs) && slices.Equal(p.Main, q.Main)
}

// R1: calls at once tell the same.
func TestTogether(t *testing.T) {
	p := samples.Whole(little)
	script := api.Script{Reads: []int{1, 2}, News: []int{1}}
	want := all(t, p, script, 40)
	samples.Together(func() {
		if l, e := run.Run(p, script, 40); e != api.OK || !slices.EqualFunc(l, want, alike) {
			t.Errorf("Run = %+v, %d", l, e)
		}
		if s, e := run.Step(p, want[4], script); e != api.OK || !alike(s, want[5]) {
			t.Errorf("Step = %+v, %d", s, e)
		}
	})
}
