package run_test

import (
	"math"
	"slices"
	"testing"

	"cellar/api"
	"cellar/samples"
)

// comes checks what a state is behind its next statement: it, with a few things changed.
func (b board) comes(t *testing.T, script api.Script, do func(s *api.State)) {
	t.Helper()
	want := samples.CloneState(b.s)
	do(&want)
	if s := told(t, b.Done(), b.s, script); !alike(s, want) {
		t.Errorf("behind %+v: %+v, want %+v", b.Done().Stmts[b.s.Next[0]], s, want)
	}
}

// goes has statements come next, checks what changes but them, when the first is done.
func (b board) goes(t *testing.T, script api.Script, next []int, do func(s *api.State)) {
	t.Helper()
	b.s.Next = next
	b.comes(t, script, func(s *api.State) {
		s.Next = s.Next[1:]
		do(s)
	})
}

// fails checks that just Bad is told of a statement, and the rest of what comes next stays.
func (b board) fails(t *testing.T, at int, what int) {
	t.Helper()
	for _, script := range samples.Scripts() {
		for _, inputs := range []int{0, 5, api.MaxSteps} {
			b.s.Inputs = inputs
			b.goes(t, script, []int{at, 0, at}, func(s *api.State) { s.Bad = api.Alarm{At: at, What: what} })
		}
	}
}

func put(s *api.State, block int, off int, l []api.Byte) {
	copy(s.Blocks[block].Bytes[off:], l)
}

// P13.2: the chapter's example.
func TestStop(t *testing.T) {
	m := samples.NewMaker(little, nil, nil)
	m.Stop()
	p := m.Done()
	for _, next := range [][]int{{0}, {0, 0}, {0, 0, 0}} {
		s := api.State{Blocks: []api.Block{{}}, Next: next, Inputs: 3}
		if s := told(t, p, s, api.Script{}); !alike(s, api.State{Blocks: []api.Block{{}}, Inputs: 3}) {
			t.Errorf("behind stop: %+v", s)
		}
	}
}

// P13.2: Next empty or Bad there: nothing; a state of which nothing was told stays, too.
func TestNothing(t *testing.T) {
	b := newBoard(little)
	at := b.Set(b.Addr(1, 0), api.KU8, b.Num(api.KU8, 9))
	b.comes(t, api.Script{}, func(s *api.State) {})
	b.s.Next, b.s.Bad = []int{at, at}, api.Alarm{At: at, What: api.BadPair}
	b.comes(t, api.Script{}, func(s *api.State) {})
	b.s.Next = nil
	b.comes(t, api.Script{}, func(s *api.State) {})
}

// P13.2: SSet stores; To ahead of E, both ahead of the store.
func TestSet(t *testing.T) {
	b := newBoard(little)
	none := b.Num(api.KPtr, 0)
	zero := b.Two(api.EDiv, api.KI32, b.i32(1), b.i32(0))
	past := b.Move(b.Addr(1, 0), b.i32(99))
	first := b.Set(b.Addr(1, 2), api.KU16, b.Num(api.KU16, 0x1234))
	b.goes(t, api.Script{}, []int{first, first}, func(s *api.State) { put(s, 1, 2, digits(0x34, 0x12)) })
	far := b.Load(api.KPtr, b.Addr(1, 4))
	at := b.Set(b.Addr(2, 4), api.KPtr, far)
	b.goes(t, api.Script{}, []int{at}, func(s *api.State) { put(s, 2, 4, parts(3, 4, 0, 1, 2, 3)) })
	at = b.Set(b.Move(far, b.i32(-1)), api.KI8, b.Num(api.KI8, 255))
	b.goes(t, api.Script{}, []int{at, first, at}, func(s *api.State) { put(s, 3, 3, digits(255)) })
	at = b.Set(b.Addr(1, 4), api.KPtr, none)
	b.goes(t, api.Script{}, []int{at}, func(s *api.State) { put(s, 1, 4, digits(0, 0, 0, 0)) })

	b.fails(t, b.Set(none, api.KI32, b.i32(1)), api.BadNull)
	b.fails(t, b.Set(b.Addr(1, 14), api.KI32, b.i32(1)), api.BadBounds)
	b.fails(t, b.Set(b.Addr(1, 2), api.KI32, b.i32(1)), api.BadAlign)
	b.fails(t, b.Set(none, api.KI32, zero), api.BadZero)
	b.fails(t, b.Set(past, api.KI32, zero), api.BadBounds)
	b.fails(t, b.Set(b.Load(api.KPtr, b.Addr(1, 8)), api.KI32, zero), api.BadEmpty)
	b.fails(t, b.Set(b.Addr(1, 0), api.KI32, b.Load(api.KI32, past)), api.BadBounds)
	b.fails(t, b.Set(b.gone(), api.KI32, b.i32(1)), api.BadNull)
}

// P13.2: a place and a number stand as they were ahead of the store, which may change both.
func TestSetOver(t *testing.T) {
	b := newBoard(little)
	b.s.Blocks[1].Bytes = row(parts(1, 0, 0, 1, 2, 3), nothings(12))
	to := b.Load(api.KPtr, b.Addr(1, 0))
	at := b.Set(to, api.KPtr, to)
	b.goes(t, api.Script{}, []int{at}, func(s *api.State) {})
	at = b.Set(to, api.KI32, b.Two(api.ESame, api.KI32, to, b.Addr(1, 0)))
	b.goes(t, api.Script{}, []int{at}, func(s *api.State) { put(s, 1, 0, digits(1, 0, 0, 0)) })
	at = b.Set(b.Addr(2, 4), api.KU8, b.Two(api.EAdd, api.KU8, b.Load(api.KU8, b.Addr(2, 4)), b.Load(api.KU8, b.Addr(2, 4))))
	b.goes(t, api.Script{}, []int{at}, func(s *api.State) { put(s, 2, 4, digits(18)) })
}

// P13.2: SRead stores the Inputs-th number, from the begin again, wrapped; 0 of none.
func TestRead(t *testing.T) {
	reads := func(l ...int) api.Script { return api.Script{Reads: l, News: []int{0, 77}} }
	for _, c := range []struct {
		script api.Script
		inputs int
		kind   int
		want   []api.Byte
	}{
		{reads(), 0, api.KU8, digits(0)},
		{reads(), 7, api.KI32, digits(0, 0, 0, 0)},
		{api.Script{}, 399, api.KI16, digits(0, 0)},
		{reads(5), 0, api.KU8, digits(5)},
		{reads(5), 1, api.KU8, digits(5)},
		{reads(5), 399, api.KU8, digits(5)},
		{reads(5, 6, 7), 0, api.KU8, digits(5)},
		{reads(5, 6, 7), 2, api.KU8, digits(7)},
		{reads(5, 6, 7), 3, api.KU8, digits(5)},
		{reads(5, 6, 7), 4, api.KU8, digits(6)},
		{reads(5, 6, 7), 398, api.KU8, digits(7)},
		{reads(-1), 0, api.KU8, digits(255)},
		{reads(-1), 0, api.KI8, digits(255)},
		{reads(-1), 0, api.KU16, digits(255, 255)},
		{reads(-1), 0, api.KI32, digits(255, 255, 255, 255)},
		{reads(-2), 0, api.KU32, digits(254, 255, 255, 255)},
		{reads(255), 0, api.KI8, digits(255)},
		{reads(256), 0, api.KU8, digits(0)},
		{reads(0x12345), 0, api.KU16, digits(0x45, 0x23)},
		{reads(0x12345), 0, api.KU32, digits(0x45, 0x23, 1, 0)},
		{reads(1<<32 + 3), 0, api.KU32, digits(3, 0, 0, 0)},
		{reads(1<<32 - 1), 0, api.KI32, digits(255, 255, 255, 255)},
		{reads(-1<<32 - 1), 0, api.KI32, digits(255, 255, 255, 255)},
		{reads(math.MaxInt), 0, api.KI16, digits(255, 255)},
		{reads(math.MinInt), 0, api.KU32, digits(0, 0, 0, 0)},
		{reads(math.MinInt + 3), 0, api.KU8, digits(3)},
	} {
		b := newBoard(little)
		at := b.Read(b.Addr(1, 8), c.kind)
		b.s.Inputs = c.inputs
		b.goes(t, c.script, []int{at, at}, func(s *api.State) {
			put(s, 1, 8, c.want)
			s.Inputs++
		})
	}
	b := newBoard(api.Abi{Big: true, Ptr: 2})
	at := b.Read(b.Addr(1, 8), api.KU16)
	b.goes(t, reads(258), []int{at}, func(s *api.State) {
		put(s, 1, 8, digits(1, 2))
		s.Inputs = 1
	})
}

// P13.2: what goes wrong with SRead; nothing is read then.
func TestReadBad(t *testing.T) {
	b := newBoard(little)
	b.fails(t, b.Read(b.Num(api.KPtr, 0), api.KU8), api.BadNull)
	b.fails(t, b.Read(b.Addr(1, 15), api.KU16), api.BadBounds)
	b.fails(t, b.Read(b.Addr(1, 13), api.KU16), api.BadAlign)
	b.fails(t, b.Read(b.Load(api.KPtr, b.Addr(1, 8)), api.KU16), api.BadEmpty)
	b.fails(t, b.Read(b.Load(api.KPtr, b.Addr(1, 0)), api.KU16), api.BadMixed)
}

// P13.2: the most that were read are read once more, and then one is more than may be.
func TestReadMost(t *testing.T) {
	b := newBoard(little)
	at := b.Read(b.Addr(1, 0), api.KU8)
	b.s.Inputs = api.MaxSteps
	b.goes(t, api.Script{Reads: []int{8, 9}}, []int{at}, func(s *api.State) {
		put(s, 1, 0, digits(8))
		s.Inputs = api.MaxSteps + 1
	})
}

// P13.2: SNew makes a block, or not, as News tells of its number among News.
func TestNew(t *testing.T) {
	news := func(l ...int) api.Script { return api.Script{News: l, Reads: []int{0}} }
	for _, c := range []struct {
		script        api.Script
		first, second bool
	}{
		{news(), true, true},
		{api.Script{}, true, true},
		{news(0), false, false},
		{news(1), true, true},
		{news(2), false, false},
		{news(-1), true, true},
		{news(-2), false, false},
		{news(math.MaxInt), true, true},
		{news(math.MinInt), false, false},
		{news(0, 1), false, true},
		{news(1, 0), true, false},
		{news(3, -4, 1), true, false},
		{news(-3, 7, 0), true, true},
		{news(0, 0, 1, 1), false, false},
	} {
		for i, is := range []bool{c.first, c.second} {
			b := newBoard(little)
			b.s.Blocks[3], b.s.Blocks[4] = api.Block{}, api.Block{}
			put(&b.s, 1, 4, nothings(4))
			b.s.Inputs = 5
			at := b.New(b.Addr(1, 4), 3+i)
			b.goes(t, c.script, []int{at, at}, func(s *api.State) {
				if is {
					s.Blocks[3+i] = room(nothings(4)...)
					put(s, 1, 4, parts(3+i, 0, 0, 1, 2, 3))
				} else {
					s.Blocks[3+i] = api.Block{State: api.Failed}
					put(s, 1, 4, digits(0, 0, 0, 0))
				}
			})
		}
	}
}

// P13.2: SNew of blocks of unlike sizes, on a machine with pointers of two bytes.
func TestNewSizes(t *testing.T) {
	m := samples.NewMaker(api.Abi{Ptr: 2, Big: true}, []int{4}, []int{1, api.MaxSize})
	m.New(m.Addr(1, 0), 3)
	m.New(m.Addr(1, 2), 2)
	p := m.Done()
	l := all(t, p, api.Script{}, 9)
	want := api.State{Blocks: []api.Block{{}, room(row(parts(3, 0, 0, 1), parts(2, 0, 0, 1))...), room(nothings(1)...), room(nothings(api.MaxSize)...)}}
	if len(l) != 3 || !alike(l[2], want) {
		t.Errorf("%+v, want %+v", l, want)
	}
}

// P13.2: SNew of a block that is not NotYet is BadFree, behind what goes wrong with To,
// ahead of the store; where the store goes wrong the block is as it was.
func TestNewBad(t *testing.T) {
	for _, c := range []struct {
		to   func(b board) int
		what int // where the store or To goes wrong; else BadNone
		made int // of a block that was made
	}{
		{func(b board) int { return b.Addr(2, 0) }, api.BadNone, api.BadFree},
		{func(b board) int { return b.Num(api.KPtr, 0) }, api.BadNull, api.BadFree},
		{func(b board) int { return b.Addr(2, 6) }, api.BadBounds, api.BadFree},
		{func(b board) int { return b.Addr(2, 2) }, api.BadAlign, api.BadFree},
		{func(b board) int { return b.Load(api.KPtr, b.Addr(1, 8)) }, api.BadEmpty, api.BadEmpty},
		{func(b board) int { return b.Load(api.KPtr, b.Addr(1, 0)) }, api.BadMixed, api.BadMixed},
		{func(b board) int { return b.Move(b.Addr(1, 0), b.i32(17)) }, api.BadBounds, api.BadBounds},
	} {
		for block := 3; block <= 4; block++ {
			b := newBoard(little)
			at := b.New(c.to(b), block)
			for _, state := range []api.Block{room(nothings(4)...), {State: api.Freed}, {State: api.Failed}} {
				b.s.Blocks[block] = state
				b.fails(t, at, c.made)
			}
			b.s.Blocks[block] = api.Block{}
			if c.what != api.BadNone {
				b.fails(t, at, c.what)
			}
		}
	}
}

// P13.2: a pointer to the block that is to be made stands in memory: it is Alive when the
// pointer to it is stored there; if it is Failed, null can't be.
func TestNewInItself(t *testing.T) {
	b := newBoard(little)
	b.s.Blocks[3] = api.Block{}
	put(&b.s, 1, 4, parts(3, 0, 0, 1, 2, 3))
	at := b.New(b.Load(api.KPtr, b.Addr(1, 4)), 3)
	b.goes(t, api.Script{}, []int{at}, func(s *api.State) { s.Blocks[3] = room(parts(3, 0, 0, 1, 2, 3)...) })
	b.goes(t, api.Script{News: []int{0}}, []int{at}, func(s *api.State) { s.Bad = api.Alarm{At: at, What: api.BadNull} })
	put(&b.s, 1, 4, parts(3, 4, 0, 1, 2, 3))
	b.goes(t, api.Script{}, []int{at}, func(s *api.State) { s.Bad = api.Alarm{At: at, What: api.BadBounds} })
}

// P13.2: SFree of null, of a made block's begin, and of what can't be freed.
func TestFree(t *testing.T) {
	b := newBoard(little)
	null := b.Free(b.Num(api.KPtr, 0))
	b.goes(t, api.Script{}, []int{null, null}, func(s *api.State) {})
	b.goes(t, api.Script{}, []int{b.Free(b.Load(api.KPtr, b.Addr(2, 0)))}, func(s *api.State) {})
	far := b.Load(api.KPtr, b.Addr(1, 4))
	b.fails(t, b.Free(far), api.BadFree)
	b.fails(t, b.Free(b.Move(far, b.i32(-1))), api.BadFree)
	at := b.Free(b.Move(far, b.i32(-4)))
	b.goes(t, api.Script{}, []int{at, at, null}, func(s *api.State) { s.Blocks[3] = api.Block{State: api.Freed} })
	b.fails(t, b.Free(b.Addr(1, 0)), api.BadFree)
	b.fails(t, b.Free(b.Addr(2, 0)), api.BadFree)
	b.fails(t, b.Free(b.Addr(2, 8)), api.BadFree)
	b.fails(t, b.Free(b.Load(api.KPtr, b.Addr(1, 8))), api.BadEmpty)
	b.fails(t, b.Free(b.Move(b.Num(api.KPtr, 0), b.i32(1))), api.BadNull)
	at = b.Free(b.gone())
	for _, block := range []api.Block{{}, {State: api.Freed}, {State: api.Failed}} {
		b.s.Blocks[4] = block
		b.fails(t, at, api.BadFree)
	}
	b.s.Blocks[4] = room(nothings(4)...)
	b.goes(t, api.Script{}, []int{at}, func(s *api.State) { s.Blocks[4] = api.Block{State: api.Freed} })
}

// P13.2: SIf has Body come next, or Else; SWhile Body, then itself.
func TestChoices(t *testing.T) {
	b := newBoard(little)
	yes, minus, no := b.i32(1), b.i32(-1<<31), b.i32(0)
	stops := func() { b.Stop(); b.Stop() }
	b.If(yes, stops, stops)   // 0, of 1, 2 and 3, 4
	b.If(no, stops, stops)    // 5, of 6, 7 and 8, 9
	b.If(yes, nil, stops)     // 10
	b.If(no, stops, nil)      // 13
	b.While(minus, stops)     // 16
	b.While(no, stops)        // 19
	b.While(yes, nil)         // 22
	b.If(minus, stops, stops) // 23
	for _, c := range []struct {
		at   int
		want []int
	}{
		{0, []int{1, 2}}, {5, []int{8, 9}}, {10, nil}, {13, nil},
		{16, []int{17, 18, 16}}, {19, nil}, {22, []int{22}}, {23, []int{24, 25}},
	} {
		for _, rest := range [][]int{nil, {3}, {22, 0, 0, 3}} {
			next := append([]int{c.at}, rest...)
			b.goes(t, api.Script{}, next, func(s *api.State) { s.Next = append(c.want[:len(c.want):len(c.want)], rest...) })
		}
	}
	b.fails(t, b.If(b.Load(api.KI32, b.Addr(1, 8)), stops, stops), api.BadEmpty)
	b.fails(t, b.While(b.Two(api.ERem, api.KI32, yes, no), stops), api.BadZero)
}

// P13.2, P13.3: a loop with a stop in an if, from its begin to its end.
func TestLoop(t *testing.T) {
	m := samples.NewMaker(little, []int{4}, nil)
	at := m.Addr(1, 0)
	n := m.Load(api.KI32, at)
	m.Read(at, api.KI32)                                                // 0
	m.While(m.Two(api.ELess, api.KI32, m.Num(api.KI32, 0), n), func() { // 1
		m.If(m.Two(api.EEq, api.KI32, n, m.Num(api.KI32, 5)), func() { m.Stop() }, nil) // 2, 3
		m.Set(at, api.KI32, m.Two(api.ESub, api.KI32, n, m.Num(api.KI32, 1)))           // 4
	})
	m.Set(at, api.KI32, m.Num(api.KI32, 9)) // 5
	for _, c := range []struct {
		reads int
		want  [][]int
		last  int
	}{
		{2, [][]int{{0, 1, 5}, {1, 5}, {2, 4, 1, 5}, {4, 1, 5}, {1, 5}, {2, 4, 1, 5}, {4, 1, 5}, {1, 5}, {5}, nil}, 9},
		{-7, [][]int{{0, 1, 5}, {1, 5}, {5}, nil}, 9},
		{6, [][]int{{0, 1, 5}, {1, 5}, {2, 4, 1, 5}, {4, 1, 5}, {1, 5}, {2, 4, 1, 5}, {3, 4, 1, 5}, nil}, 5},
	} {
		l := all(t, m.Done(), api.Script{Reads: []int{c.reads}}, api.MaxSteps)
		var next [][]int
		for _, s := range l {
			next = append(next, s.Next)
		}
		if !slices.EqualFunc(next, c.want, slices.Equal) || !alike(l[len(l)-1], api.State{Blocks: []api.Block{{}, room(digits(c.last, 0, 0, 0)...)}, Inputs: 1}) {
			t.Errorf("of %d: %+v", c.reads, l)
		}
	}
}
