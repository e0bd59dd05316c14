package run_test

import (
	"math"
	"testing"

	"cellar/api"
	"cellar/run"
	"cellar/samples"
)

// board is a machine's memory to write expressions on: block 1 has numbers, a pointer to
// block 3 and nothing, 2 null and two bytes; of the made ones 3 is Alive, 4 Freed.
type board struct {
	*samples.Maker
	s api.State
}

func newBoard(a api.Abi) board {
	m := samples.NewMaker(a, []int{16, 8}, []int{4, 4})
	bytes := row(digits(1, 2, 3, 255), parts(3, 4, 0, 1, 2, 3)[:a.Ptr], nothings(12-a.Ptr))
	return board{m, api.State{Blocks: []api.Block{{}, room(bytes...), room(digits(0, 0, 0, 0, 9, 8, 0, 0)...), room(digits(5, 6, 7, 8)...), {State: api.Freed}}}}
}

func (b board) i32(n int) int {
	return b.Num(api.KI32, n&(1<<32-1))
}

// gone is a pointer to the block that is Freed.
func (b board) gone() int {
	l := b.s.Blocks[2].Bytes
	copy(l, parts(4, 0, 0, 1, 2, 3)[:b.Done().Abi.Ptr])
	return b.Load(api.KPtr, b.Addr(2, 0))
}

// is checks what expression x is.
func (b board) is(t *testing.T, x int, want api.Scalar, what int) {
	t.Helper()
	v, bad, e := run.Eval(b.Done(), b.s, x)
	if v != want || bad != what || e != api.OK {
		t.Errorf("%+v is %+v, %d, %d, want %+v, %d", b.Done().Exprs[x], v, bad, e, want, what)
	}
}

func (b board) right(t *testing.T, x int, want api.Scalar) {
	t.Helper()
	b.is(t, x, want, api.BadNone)
}

func (b board) bad(t *testing.T, x int, what int) {
	t.Helper()
	b.is(t, x, api.Scalar{}, what)
}

// P13.1, Eval: what is made of nothing, and of one.
func TestEvalOne(t *testing.T) {
	b := newBoard(little)
	b.right(t, b.Num(api.KU8, 200), number(200))
	b.right(t, b.i32(-1), number(1<<32-1))
	b.right(t, b.Num(api.KPtr, 0), null())
	b.right(t, b.Addr(2, 0), pointer(2, 0))

	b.right(t, b.Load(api.KU8, b.Addr(1, 3)), number(255))
	b.right(t, b.Load(api.KI16, b.Addr(1, 0)), number(513))
	b.right(t, b.Load(api.KU32, b.Addr(1, 0)), number(0xff030201))
	far := b.Load(api.KPtr, b.Addr(1, 4))
	b.right(t, far, pointer(3, 4))
	b.right(t, b.Load(api.KU16, b.Move(far, b.i32(-2))), number(8<<8|7))
	b.right(t, b.Load(api.KPtr, b.Addr(2, 0)), null())

	b.right(t, b.One(api.ECast, api.KU16, b.Num(api.KI8, 255)), number(65535))
	b.right(t, b.One(api.ECast, api.KU16, b.Num(api.KU8, 255)), number(255))
	b.right(t, b.One(api.ECast, api.KI8, b.Num(api.KU32, 0x12345678)), number(0x78))
	b.right(t, b.One(api.ENeg, api.KU8, b.Num(api.KU8, 1)), number(255))
	b.right(t, b.One(api.ENeg, api.KI16, b.Num(api.KI16, 3)), number(65533))
	b.right(t, b.One(api.ENot, api.KI16, b.Num(api.KI16, 3)), number(65532))

	for _, kind := range samples.Kinds() {
		b.right(t, b.One(api.EZero, api.KI32, b.Num(kind, 0)), number(1))
		b.right(t, b.One(api.EZero, api.KI32, b.Num(kind, 1<<(samples.Width(kind)-1))), number(0))
	}
	b.right(t, b.One(api.EZero, api.KI32, b.Num(api.KPtr, 0)), number(1))
	b.right(t, b.One(api.EZero, api.KI32, b.Addr(1, 0)), number(0))
	b.right(t, b.One(api.EZero, api.KI32, far), number(0))
	b.right(t, b.One(api.EZero, api.KI32, b.gone()), number(0))
}

// P13.1, Eval: what is made of two.
func TestEvalTwo(t *testing.T) {
	b := newBoard(little)
	for _, c := range []struct{ op, kind, x, y, want int }{
		{api.EAdd, api.KU8, 200, 100, 44},
		{api.EAdd, api.KI8, 100, 27, 127},
		{api.ESub, api.KU16, 1, 2, 65535},
		{api.EMul, api.KU32, 1 << 31, 3, 1 << 31},
		{api.EDiv, api.KI8, 249, 2, 253}, // -7 by 2
		{api.EDiv, api.KU8, 249, 2, 124},
		{api.ERem, api.KI8, 249, 2, 255},
		{api.EAnd, api.KU16, 0xff0f, 0x0ff0, 0x0f00},
		{api.EOr, api.KI8, 0x81, 2, 0x83},
		{api.EXor, api.KU32, 5, 6, 3},
		{api.EShl, api.KI8, 0x41, 1, 0x82},
		{api.EShr, api.KI8, 0x82, 1, 0xc1},
		{api.EShr, api.KU8, 0x82, 1, 0x41},
		{api.EEq, api.KI8, 255, 255, 1},
		{api.EEq, api.KU8, 255, 1, 0},
		{api.ELess, api.KI8, 255, 1, 1},
		{api.ELess, api.KU8, 255, 1, 0},
		{api.ELess, api.KI32, 3, 3, 0},
	} {
		kind := c.kind
		if c.op == api.EEq || c.op == api.ELess {
			kind = api.KI32
		}
		b.right(t, b.Two(c.op, kind, b.Num(c.kind, c.x), b.Num(c.kind, c.y)), number(c.want))
	}
	b = newBoard(little)
	far := b.Load(api.KPtr, b.Addr(1, 4))
	b.right(t, b.Move(b.Addr(1, 0), b.i32(16)), pointer(1, 16))
	b.right(t, b.Move(far, b.i32(-4)), pointer(3, 0))
	b.right(t, b.Move(b.Num(api.KPtr, 0), b.i32(0)), null())
	b.right(t, b.Two(api.EApart, api.KI32, b.Addr(1, 3), b.Addr(1, 5)), number(1<<32-2))
	b.right(t, b.Two(api.EApart, api.KI32, b.Num(api.KPtr, 0), b.Num(api.KPtr, 0)), number(0))
	b.right(t, b.Two(api.ESame, api.KI32, far, far), number(1))
	b.right(t, b.Two(api.ESame, api.KI32, far, b.Addr(2, 0)), number(0))
	b.right(t, b.Two(api.ESame, api.KI32, b.Addr(1, 1), b.Addr(1, 2)), number(0))
	gone := b.gone()
	b.right(t, b.Two(api.ESame, api.KI32, gone, gone), number(1))
	b.right(t, b.Two(api.ESame, api.KI32, gone, b.Num(api.KPtr, 0)), number(0))
}

// P13.1, Eval: each class that an expression can have.
func TestEvalBad(t *testing.T) {
	b := newBoard(little)
	b.bad(t, b.Load(api.KU32, b.Addr(1, 14)), api.BadBounds)
	b.bad(t, b.Move(b.Addr(1, 0), b.i32(17)), api.BadBounds)
	b.bad(t, b.Move(b.Addr(1, 0), b.i32(-1)), api.BadBounds)
	b.bad(t, b.Load(api.KU8, b.Num(api.KPtr, 0)), api.BadNull)
	b.bad(t, b.Move(b.Num(api.KPtr, 0), b.i32(1)), api.BadNull)
	b.bad(t, b.Load(api.KU16, b.Addr(1, 1)), api.BadAlign)
	b.bad(t, b.Two(api.EAdd, api.KI8, b.Num(api.KI8, 100), b.Num(api.KI8, 100)), api.BadOver)
	b.bad(t, b.One(api.ENeg, api.KI8, b.Num(api.KI8, 128)), api.BadOver)
	b.bad(t, b.Two(api.EDiv, api.KI8, b.Num(api.KI8, 128), b.Num(api.KI8, 255)), api.BadOver)
	b.bad(t, b.Two(api.EShl, api.KU8, b.Num(api.KU8, 1), b.Num(api.KU8, 8)), api.BadShift)
	b.bad(t, b.Two(api.EShr, api.KI8, b.Num(api.KI8, 1), b.Num(api.KI8, 255)), api.BadShift)
	b.bad(t, b.Two(api.ERem, api.KU8, b.Num(api.KU8, 1), b.Num(api.KU8, 0)), api.BadZero)
	b.bad(t, b.Load(api.KU8, b.Addr(1, 8)), api.BadEmpty)
	b.bad(t, b.Load(api.KU8, b.Addr(1, 4)), api.BadMixed)
	b.bad(t, b.Load(api.KPtr, b.Addr(1, 0)), api.BadMixed)
	b.bad(t, b.Two(api.EApart, api.KI32, b.Addr(1, 0), b.Addr(2, 0)), api.BadPair)
	b.bad(t, b.Two(api.EApart, api.KI32, b.Addr(1, 0), b.Num(api.KPtr, 0)), api.BadPair)
	b = newBoard(little)
	gone := b.gone()
	b.bad(t, b.Load(api.KU8, gone), api.BadNull)
	b.bad(t, b.Move(gone, b.i32(0)), api.BadNull)
}

// P13.1, Eval: what goes wrong first is told, A ahead of B, both ahead of what is made of them.
func TestEvalOrder(t *testing.T) {
	b := newBoard(little)
	none := b.Load(api.KI32, b.Num(api.KPtr, 0)) // null
	zero := b.Two(api.EDiv, api.KI32, b.i32(1), b.i32(0))
	empty := b.Load(api.KPtr, b.Addr(1, 8))
	past := b.Move(b.Addr(1, 0), b.i32(99))
	for _, op := range []int{api.EAdd, api.EDiv, api.EXor, api.EShl, api.EEq, api.ELess} {
		b.bad(t, b.Two(op, api.KI32, none, zero), api.BadNull)
		b.bad(t, b.Two(op, api.KI32, zero, none), api.BadZero)
		b.bad(t, b.Two(op, api.KI32, b.i32(0), zero), api.BadZero)
	}
	b.bad(t, b.Two(api.EDiv, api.KI32, none, b.i32(0)), api.BadNull)
	b.bad(t, b.Move(empty, zero), api.BadEmpty)
	b.bad(t, b.Move(b.Num(api.KPtr, 0), zero), api.BadZero)
	for _, op := range []int{api.EApart, api.ESame} {
		b.bad(t, b.Two(op, api.KI32, past, empty), api.BadBounds)
		b.bad(t, b.Two(op, api.KI32, empty, past), api.BadEmpty)
		b.bad(t, b.Two(op, api.KI32, b.Addr(1, 0), past), api.BadBounds)
	}
	b.bad(t, b.Load(api.KU8, past), api.BadBounds)
	b.bad(t, b.One(api.EZero, api.KI32, empty), api.BadEmpty)
	b.bad(t, b.One(api.ECast, api.KU8, zero), api.BadZero)
	b.bad(t, b.One(api.ENeg, api.KI32, none), api.BadNull)
	b.bad(t, b.Two(api.EAdd, api.KI32, b.Two(api.EAdd, api.KI32, b.i32(1), zero), none), api.BadZero)
}

// P13.1, Eval: on each machine, the highest byte first and pointers of two bytes.
func TestEvalMachines(t *testing.T) {
	for _, a := range samples.Machines() {
		b := newBoard(a)
		want := 513
		if a.Big {
			want = 258
		}
		b.right(t, b.Load(api.KU16, b.Addr(1, 0)), number(want))
		b.right(t, b.Load(api.KPtr, b.Addr(1, 4)), pointer(3, 4))
		if a.Ptr == 2 {
			b.bad(t, b.Load(api.KPtr, b.Addr(1, 5)), api.BadAlign)
			b.bad(t, b.Load(api.KPtr, b.Addr(1, 6)), api.BadEmpty)
		} else {
			b.bad(t, b.Load(api.KPtr, b.Addr(1, 6)), api.BadAlign)
			b.bad(t, b.Load(api.KPtr, b.Addr(1, 8)), api.BadEmpty)
		}
	}
}

// P13.1, Eval: an expression that is made of itself again and again is told at once.
func TestEvalShared(t *testing.T) {
	b := newBoard(little)
	last := b.Num(api.KU32, 3)
	for range api.MaxExprs - 1 {
		last = b.Two(api.EAdd, api.KU32, last, last)
	}
	b.right(t, last, number(0))
	b.right(t, 20, number(3<<20))
	b = newBoard(little)
	last = b.Load(api.KI32, b.Addr(1, 12))
	for range api.MaxExprs - 4 {
		last = b.Two(api.EXor, api.KI32, last, last)
	}
	b.bad(t, last, api.BadEmpty)
}

// P13.1, Eval: an expression that there is not; whether the state has ended does not count.
func TestEvalNone(t *testing.T) {
	b := newBoard(little)
	x := b.Num(api.KU8, 7)
	b.Stop()
	for _, bad := range []api.Alarm{{}, {What: api.BadOver}} {
		for _, next := range [][]int{nil, {0}} {
			b.s.Bad, b.s.Next = bad, next
			b.right(t, x, number(7))
			for _, n := range []int{-1, 1, 2, api.MaxExprs, math.MaxInt, math.MinInt} {
				if v, bad, e := run.Eval(b.Done(), b.s, n); v != number(0) || bad != 0 || e != api.ErrNone {
					t.Errorf("Eval of %d = %v, %d, %d", n, v, bad, e)
				}
			}
		}
	}
	nothing := api.Program{Abi: little}
	if v, bad, e := run.Eval(nothing, begin(t, nothing), 0); v != number(0) || bad != 0 || e != api.ErrNone {
		t.Errorf("Eval of nothing = %v, %d, %d", v, bad, e)
	}
}
