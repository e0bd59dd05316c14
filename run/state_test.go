package run_test

import (
	"slices"
	"testing"

	"cellar/api"
	"cellar/run"
	"cellar/samples"
)

// mayBe is chapter 13's words on states, and those of 8 and 9 on which they stand.
func mayBe(p api.Program, s api.State) bool {
	sizes := slices.Concat([]int{0}, p.Vars, p.News)
	if len(s.Blocks) != len(sizes) {
		return false
	}
	for i, b := range s.Blocks {
		states := []int{api.NotYet, api.Alive, api.Freed, api.Failed}
		if i == 0 {
			states = states[:1]
		} else if i <= len(p.Vars) {
			states = states[1:2]
		}
		size := sizes[i]
		if b.State != api.Alive {
			size = 0
		}
		if !slices.Contains(states, b.State) || len(b.Bytes) != size {
			return false
		}
		for _, c := range b.Bytes {
			fine := c == api.Byte{}
			if c.State == api.IsByte {
				fine = c == samples.Digit(c.N) && c.N >= 0 && c.N < 256
			}
			if c.State == api.IsPart {
				fine = c.N == 0 && c.Block > 0 && c.Block < len(sizes) && c.Off >= 0 && c.Off <= sizes[c.Block] && c.I >= 0 && c.I < 4
			}
			if !fine {
				return false
			}
		}
	}
	for _, i := range s.Next {
		if i < 0 || i >= len(p.Stmts) {
			return false
		}
	}
	if s.Inputs < 0 || s.Inputs > 400 {
		return false
	}
	return s.Bad == api.Alarm{} || s.Bad.At >= 0 && s.Bad.At < len(p.Stmts) && s.Bad.What >= 1 && s.Bad.What <= 10
}

func checked(t *testing.T, p api.Program, s api.State) bool {
	t.Helper()
	want := api.OK
	if !mayBe(p, s) {
		want = api.ErrForm
	}
	if e := run.Check(p, s); e != want {
		t.Fatalf("Check(%+v, %+v) = %d, want %d", p, s, e, want)
	}
	return want == api.OK
}

// full is Whole with a pointer, a part of one, nothing and numbers, in its memory, and of
// the made blocks one Alive and one Freed.
func full() (api.Program, api.State) {
	return samples.Whole(little), api.State{
		Blocks: []api.Block{{}, room(row(digits(1, 2), nothings(2), parts(4, 8, 0, 1, 2, 3))...), room(row(parts(5, 32, 3), digits(0, 255, 7))...), room(parts(1, 0, 2)...), room(nothings(8)...), {State: api.Freed}},
		Next:   []int{12, 3, 3, 0},
		Inputs: 400,
	}
}

// P13.1, Check: states that may be, from the inner side of each edge.
func TestCheck(t *testing.T) {
	p, s := full()
	fine := func(do func(s *api.State)) {
		t.Helper()
		other := samples.CloneState(s)
		do(&other)
		if !checked(t, p, other) {
			t.Errorf("may not be: %+v", other)
		}
	}
	fine(func(s *api.State) {})
	fine(func(s *api.State) { s.Next = nil })
	fine(func(s *api.State) { s.Next = slices.Repeat([]int{0, 12}, 5000) })
	fine(func(s *api.State) { s.Inputs = 0 })
	for _, b := range []api.Block{{}, room(nothings(32)...), {State: api.Freed, Bytes: []api.Byte{}}, {State: api.Failed}} {
		fine(func(s *api.State) { s.Blocks[5] = b })
	}
	for at := range len(p.Stmts) {
		for what := api.BadBounds; what <= api.BadFree; what++ {
			fine(func(s *api.State) { s.Bad = api.Alarm{At: at, What: what} })
		}
	}
	sizes := []int{0, 8, 4, 1, 8, 32}
	for block := 1; block < 6; block++ {
		for off := 0; off <= sizes[block]; off++ {
			fine(func(s *api.State) { s.Blocks[3].Bytes = parts(block, off, off%4) })
		}
	}
}

// P13.1, P13.2: of a state that may not be just the error is told, whatever expression.
func TestNotStates(t *testing.T) {
	p, s := full()
	for _, more := range [][]api.State{samples.NotStates(p, s), samples.NotStates(p, begin(t, p))} {
		for i, s := range more {
			if checked(t, p, s) {
				t.Errorf("%d: may be: %+v", i, s)
			}
			if next, e := run.Step(p, s, api.Script{}); e != api.ErrForm || !alike(next, api.State{}) {
				t.Errorf("%d: Step(%+v) = %+v, %d", i, s, next, e)
			}
			for _, x := range []int{0, -1, len(p.Exprs)} {
				if v, bad, e := run.Eval(p, s, x); e != api.ErrForm || bad != 0 || v != number(0) {
					t.Errorf("%d: Eval(%+v, %d) = %v, %d, %d", i, s, x, v, bad, e)
				}
			}
		}
	}
}

// P13.1: without statements nothing can come next or go wrong.
func TestWithoutStatements(t *testing.T) {
	p := api.Program{Abi: little, Vars: []int{1}}
	s := begin(t, p)
	for _, do := range []func(s *api.State){
		func(s *api.State) { s.Next = []int{0} },
		func(s *api.State) { s.Bad = api.Alarm{What: api.BadNull} },
	} {
		other := samples.CloneState(s)
		do(&other)
		if checked(t, p, other) {
			t.Errorf("may be: %+v", other)
		}
	}
}

// P13.1: states on whatever programs' ways, and the same with a few things changed.
func TestCheckChanged(t *testing.T) {
	fine, not := 0, 0
	for i, p := range somePrograms(600) {
		number := random(i)
		for _, s := range all(t, p, samples.Scripts()[i%6], 25) {
			if !checked(t, p, s) {
				t.Fatalf("%+v comes to %+v", p, s)
			}
			for range 6 {
				other := changed(p, s, number)
				if checked(t, p, other) {
					fine++
				} else {
					not++
				}
			}
		}
	}
	if fine < 5000 || not < 5000 {
		t.Errorf("%d may be, %d not", fine, not)
	}
}

// changed is a state with one or two things changed, seldom to what may not be.
func changed(p api.Program, s api.State, number func() int) api.State {
	s = samples.CloneState(s)
	for range number()%2 + 1 {
		block := number() % len(s.Blocks)
		b := &s.Blocks[block]
		switch number() % 8 {
		case 0:
			s.Next = append([]int{number()%(len(p.Stmts)+2) - 1}, s.Next...)
		case 1:
			s.Inputs = number()%440 - 5
		case 2:
			s.Bad = api.Alarm{At: number()%(len(p.Stmts)+2) - 1, What: number()%13 - 1}
		case 3:
			b.State, b.Bytes = number()%6-1, nil
		case 4:
			sizes := slices.Concat([]int{0}, p.Vars, p.News)
			b.State, b.Bytes = api.Alive, nothings(sizes[block]+number()%12/11)
		case 5, 6, 7:
			if len(b.Bytes) > 0 {
				b.Bytes[number()%len(b.Bytes)] = samples.Part(number()%(len(s.Blocks)+1), number()%10, number()%5)
			}
		}
	}
	return s
}
