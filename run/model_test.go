package run_test

import (
	"slices"

	"cellar/api"
	"cellar/samples"
)

// model is the chapters' words on a program that runs, told without the packages below:
// what comes next is a pile of lists, and what goes wrong is a panic with its class.
type model struct {
	p      api.Program
	t      api.Script
	blocks []api.Block
	inputs int
	bad    api.Alarm
	pile   []pile
}

// pile is what is left of a list, and the SWhile that comes again behind it (or -1).
type pile struct {
	left  []int
	again int
}

type wrong int

func begun(p api.Program, t api.Script) *model {
	m := &model{p: p, t: t, blocks: []api.Block{{}}, pile: []pile{{p.Main, -1}}}
	for _, size := range p.Vars {
		m.blocks = append(m.blocks, samples.Room(make([]api.Byte, size)...))
	}
	m.blocks = append(m.blocks, make([]api.Block, len(p.News))...)
	return m
}

func behind(p api.Program, s api.State, t api.Script) *model {
	s = samples.CloneState(s)
	return &model{p: p, t: t, blocks: s.Blocks, inputs: s.Inputs, bad: s.Bad, pile: []pile{{s.Next, -1}}}
}

func (m *model) next() []int {
	var l []int
	for i := range m.pile {
		x := m.pile[len(m.pile)-1-i]
		l = append(l, x.left...)
		if x.again >= 0 {
			l = append(l, x.again)
		}
	}
	return l
}

func (m *model) state() api.State {
	return samples.CloneState(api.State{Blocks: m.blocks, Next: m.next(), Inputs: m.inputs, Bad: m.bad})
}

func (m *model) ended() bool {
	return m.bad.What != api.BadNone || len(m.next()) == 0
}

// first takes the first one of what comes next away.
func (m *model) first() int {
	for {
		x := &m.pile[len(m.pile)-1]
		if len(x.left) > 0 {
			at := x.left[0]
			x.left = x.left[1:]
			return at
		}
		m.pile = m.pile[:len(m.pile)-1]
		if x.again >= 0 {
			return x.again
		}
	}
}

func (m *model) step() {
	if m.ended() {
		return
	}
	at := m.first()
	blocks, inputs := samples.CloneBlocks(m.blocks), m.inputs
	if bad := caught(func() { m.do(at) }); bad != api.BadNone {
		m.blocks, m.inputs, m.bad = blocks, inputs, api.Alarm{At: at, What: bad}
	}
}

func caught(do func()) (bad int) {
	defer func() {
		if r := recover(); r != nil {
			bad = int(r.(wrong))
		}
	}()
	do()
	return api.BadNone
}

func (m *model) do(at int) {
	s := m.p.Stmts[at]
	switch s.Op {
	case api.SSet:
		to := m.eval(s.To)
		m.put(to, s.Kind, m.eval(s.E))
	case api.SRead:
		to, n := m.eval(s.To), 0
		if many := len(m.t.Reads); many > 0 {
			n = m.t.Reads[m.inputs%many]
		}
		m.put(to, s.Kind, whole(s.Kind, n))
		m.inputs++
	case api.SNew:
		to, ok := m.eval(s.To), true
		if m.blocks[s.N].State != api.NotYet {
			panic(wrong(api.BadFree))
		}
		if many := len(m.t.News); many > 0 {
			ok = m.t.News[(s.N-len(m.p.Vars)-1)%many]&1 == 1
		}
		if ok {
			m.blocks[s.N] = samples.Room(make([]api.Byte, m.p.News[s.N-len(m.p.Vars)-1])...)
			m.put(to, api.KPtr, samples.Pointer(s.N, 0))
		} else {
			m.blocks[s.N] = api.Block{State: api.Failed}
			m.put(to, api.KPtr, samples.Null())
		}
	case api.SFree:
		if x := m.eval(s.E); x != samples.Null() {
			if x.Block <= len(m.p.Vars) || m.blocks[x.Block].State != api.Alive || x.Off != 0 {
				panic(wrong(api.BadFree))
			}
			m.blocks[x.Block] = api.Block{State: api.Freed}
		}
	case api.SIf:
		if m.eval(s.E) != samples.Number(0) {
			m.pile = append(m.pile, pile{s.Body, -1})
		} else {
			m.pile = append(m.pile, pile{s.Else, -1})
		}
	case api.SWhile:
		if m.eval(s.E) != samples.Number(0) {
			m.pile = append(m.pile, pile{s.Body, at})
		}
	case api.SStop:
		m.pile = nil
	}
}

// seen is a number as its kind shows it, whole the number of that kind that n is.
func seen(kind int, n int) int {
	switch kind {
	case api.KU8:
		return int(uint8(n))
	case api.KI8:
		return int(int8(n))
	case api.KU16:
		return int(uint16(n))
	case api.KI16:
		return int(int16(n))
	case api.KU32:
		return int(uint32(n))
	}
	return int(int32(n))
}

func whole(kind int, n int) api.Scalar {
	return samples.Number(int(uint32(n)) & (1<<samples.Width(kind) - 1))
}

func check(fine bool, bad int) {
	if !fine {
		panic(wrong(bad))
	}
}

// row is the bytes of a scalar that lies at p.
func (m *model) row(p api.Scalar, kind int) []api.Byte {
	size := samples.Size(m.p.Abi, kind)
	l := m.blocks[p.Block]
	check(l.State == api.Alive, api.BadNull)
	check(p.Off <= len(l.Bytes)-size, api.BadBounds)
	check(p.Off%size == 0, api.BadAlign)
	return l.Bytes[p.Off : p.Off+size]
}

func (m *model) put(p api.Scalar, kind int, x api.Scalar) {
	l := m.row(p, kind)
	for i := range l {
		up := i
		if m.p.Abi.Big {
			up = len(l) - 1 - i
		}
		if l[i] = samples.Digit(int(byte(x.N >> (8 * up)))); x.Block > 0 {
			l[i] = samples.Part(x.Block, x.Off, i)
		}
	}
}

func (m *model) get(p api.Scalar, kind int) api.Scalar {
	l := m.row(p, kind)
	check(!slices.Contains(l, api.Byte{}), api.BadEmpty)
	if kind == api.KPtr {
		if !slices.ContainsFunc(l, func(b api.Byte) bool { return b != samples.Digit(0) }) {
			return samples.Null()
		}
		for i, b := range l {
			check(b == samples.Part(l[0].Block, l[0].Off, i), api.BadMixed)
		}
		return samples.Pointer(l[0].Block, l[0].Off)
	}
	n := 0
	if m.p.Abi.Big {
		l = slices.Clone(l)
		slices.Reverse(l)
	}
	for i, b := range l {
		check(b.State == api.IsByte, api.BadMixed)
		n |= b.N << (8 * i)
	}
	return samples.Number(n)
}

func (m *model) eval(i int) api.Scalar {
	x := m.p.Exprs[i]
	switch x.Op {
	case api.ENum:
		if x.Kind == api.KPtr {
			return samples.Null()
		}
		return samples.Number(x.N)
	case api.EAddr:
		return samples.Pointer(x.N, 0)
	}
	a := m.eval(x.A)
	kind := m.p.Exprs[x.A].Kind
	switch x.Op {
	case api.ELoad:
		return m.get(a, x.Kind)
	case api.ECast:
		return whole(x.Kind, seen(kind, a.N))
	case api.ENeg:
		n := -seen(kind, a.N)
		check(!samples.Signed(kind) || seen(kind, n) == n, api.BadOver)
		return whole(kind, n)
	case api.ENot:
		return whole(kind, ^a.N)
	case api.EZero:
		return truth(a == samples.Null() || a == samples.Number(0))
	}
	b := m.eval(x.B)
	switch x.Op {
	case api.EMove:
		return m.move(a, seen(api.KI32, b.N))
	case api.EApart:
		check(a.Block == b.Block, api.BadPair)
		return whole(api.KI32, a.Off-b.Off)
	case api.ESame:
		return truth(a == b)
	case api.EEq:
		return truth(a == b)
	case api.ELess:
		return truth(seen(kind, a.N) < seen(kind, b.N))
	}
	return work(x.Op, kind, seen(kind, a.N), seen(kind, b.N))
}

func (m *model) move(a api.Scalar, by int) api.Scalar {
	l := m.blocks[a.Block]
	check(l.State == api.Alive || a == samples.Null() && by == 0, api.BadNull)
	a.Off += by
	check(a.Off >= 0 && a.Off <= len(l.Bytes), api.BadBounds)
	return a
}

func truth(is bool) api.Scalar {
	if is {
		return samples.Number(1)
	}
	return samples.Number(0)
}

// work is an operator of two numbers, of which u and v are seen.
func work(op int, kind int, u int, v int) api.Scalar {
	fits := func(n int) api.Scalar {
		check(!samples.Signed(kind) || seen(kind, n) == n, api.BadOver)
		return whole(kind, n)
	}
	switch op {
	case api.EAdd:
		return fits(u + v)
	case api.ESub:
		return fits(u - v)
	case api.EMul:
		return fits(u * v)
	case api.EDiv, api.ERem:
		check(v != 0, api.BadZero)
		fits(u / v)
		if op == api.EDiv {
			return whole(kind, u/v)
		}
		return whole(kind, u%v)
	case api.EAnd:
		return whole(kind, u&v)
	case api.EOr:
		return whole(kind, u|v)
	case api.EXor:
		return whole(kind, u^v)
	}
	check(v >= 0 && v < samples.Width(kind), api.BadShift)
	if op == api.EShl {
		return whole(kind, u<<v)
	}
	return whole(kind, u>>v)
}
