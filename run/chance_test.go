package run_test

import (
	"math/rand"
	"testing"

	"cellar/api"
	"cellar/run"
	"cellar/samples"
)

func random(seed int) func() int {
	r := rand.New(rand.NewSource(int64(seed)))
	return func() int { return int(r.Int63()) }
}

// somePrograms are whatever programs.
func somePrograms(many int) []api.Program {
	var l []api.Program
	for i := range many {
		plan := samples.Plan{Loops: i%5 > 0, Reads: i%2 > 0, News: i%3 > 0, Wild: max(0, i%12-5), Stmts: 5 + i%35, Deep: i / 3 % 4, Filled: i%8 > 0}
		l = append(l, samples.Whatever(random(i), samples.Machines()[i%4], plan))
	}
	return l
}

// script is whatever comes.
func script(number func() int) api.Script {
	var t api.Script
	for range number() % 5 {
		t.Reads = append(t.Reads, number()-number())
	}
	for range number() % 4 {
		t.News = append(t.News, (number()-number())|number()&1)
	}
	return t
}

// P13.1 to P13.3: whatever programs run as the chapters' words say, step by step.
func TestRunAgainstWords(t *testing.T) {
	met, done := map[int]int{}, map[int]int{}
	for i, p := range append(samples.Programs(), somePrograms(2500)...) {
		s := script(random(i))
		m := begun(p, s)
		l := all(t, p, s, api.MaxSteps)
		for at, x := range l {
			if !alike(x, m.state()) {
				t.Fatalf("%d: Run(%+v, %+v): state %d is %+v, want %+v", i, p, s, at, x, m.state())
			}
			if run.Ended(x) != m.ended() || m.ended() && at < len(l)-1 {
				t.Fatalf("%d: Run(%+v, %+v): state %d of %d ended", i, p, s, at, len(l))
			}
			if !m.ended() {
				done[p.Stmts[x.Next[0]].Op]++
			}
			m.step()
		}
		if last := l[len(l)-1]; !run.Ended(last) && len(l) != api.MaxSteps+1 {
			t.Fatalf("%d: Run(%+v, %+v): %d states", i, p, s, len(l))
		}
		met[l[len(l)-1].Bad.What]++
	}
	for what := api.BadNone; what <= api.BadFree; what++ {
		if met[what] < 5 {
			t.Errorf("class %d: %d times", what, met[what])
		}
	}
	for op := api.SSet; op <= api.SStop; op++ {
		if done[op] < 10 {
			t.Errorf("statement %d: %d times", op, done[op])
		}
	}
}

// P13.1, P13.2: Eval and Step of states on programs' ways, and of others that may be.
func TestStepAgainstWords(t *testing.T) {
	bads, rights := map[int]int{}, map[int]int{}
	for i, p := range somePrograms(700) {
		number := random(i)
		s := script(number)
		for at, x := range all(t, p, s, 12) {
			for range 3 {
				stepped(t, p, x, s)
				if at%4 == 0 {
					evaluated(t, p, x, bads, rights)
				}
				if x = changed(p, x, number); !mayBe(p, x) {
					break
				}
			}
		}
	}
	for what := api.BadBounds; what < api.BadFree; what++ {
		if bads[what] < 20 {
			t.Errorf("class %d: %d times", what, bads[what])
		}
	}
	for op := api.ENum; op <= api.ESame; op++ {
		if rights[op] < 50 {
			t.Errorf("expression %d went right %d times", op, rights[op])
		}
	}
}

func stepped(t *testing.T, p api.Program, s api.State, script api.Script) {
	t.Helper()
	kept := samples.CloneState(s)
	m := behind(p, s, script)
	m.step()
	if next := told(t, p, s, script); !alike(next, m.state()) {
		t.Fatalf("Step(%+v, %+v, %+v) = %+v, want %+v", p, s, script, next, m.state())
	}
	if !alike(s, kept) {
		t.Fatalf("Step of %+v left %+v", kept, s)
	}
}

func evaluated(t *testing.T, p api.Program, s api.State, bads map[int]int, rights map[int]int) {
	t.Helper()
	m := behind(p, s, api.Script{})
	for x := range p.Exprs {
		want := api.Scalar{}
		what := caught(func() { want = m.eval(x) })
		v, bad, e := run.Eval(p, s, x)
		if v != want || bad != what || e != api.OK {
			t.Fatalf("Eval(%+v, %+v, %d) = %+v, %d, %d, want %+v, %d", p, s, x, v, bad, e, want, what)
		}
		if bads[bad]++; bad == api.BadNone {
			rights[p.Exprs[x].Op]++
		}
	}
}
