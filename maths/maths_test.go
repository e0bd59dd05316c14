package maths_test

import (
	"math"
	"math/rand"
	"slices"
	"testing"

	"cellar/alu"
	"cellar/api"
	"cellar/maths"
	"cellar/samples"
	"cellar/val"
)

// The face: each line stops compiling if a signature changes.
var (
	_ func(int, int, api.Val, api.Val) (api.Val, []int, api.Errno) = maths.Two
	_ func(int, int, api.Val) (api.Val, []int, api.Errno)          = maths.One
	_ func(int, int, api.Val) (api.Val, api.Errno)                 = maths.Cast
)

func opsOfTwo() []int {
	return []int{api.EAdd, api.ESub, api.EMul, api.EDiv, api.ERem, api.EAnd, api.EOr, api.EXor, api.EShl, api.EShr, api.EEq, api.ELess}
}

func opsOfOne() []int {
	return []int{api.ENeg, api.ENot, api.EZero}
}

// answerWidth is what the chapter says of the set that is told.
func answerWidth(op int, kind int) int {
	if op == api.EEq || op == api.ELess || op == api.EZero {
		return 32
	}
	return samples.Width(kind)
}

// possible are the classes that alu can tell of an operator and a kind, as
// chapter 2 says.
func possible(op int, kind int) []int {
	switch op {
	case api.EAdd, api.ESub, api.EMul, api.ENeg:
		if samples.Signed(kind) {
			return []int{api.BadOver}
		}
	case api.EDiv, api.ERem:
		if samples.Signed(kind) {
			return []int{api.BadOver, api.BadZero}
		}
		return []int{api.BadZero}
	case api.EShl, api.EShr:
		return []int{api.BadShift}
	}
	return nil
}

// holds checks what was told against what alu tells of some members, or of all:
// then no class is told that does not happen, too.
func holds(t *testing.T, what []any, v api.Val, bads []int, op int, kind int, tell func(hold func(n int, bad int)), whole bool) {
	t.Helper()
	if val.Check(v) != api.OK || v.Width != answerWidth(op, kind) {
		t.Fatalf("%v: told %+v, no set of width %d", what, v, answerWidth(op, kind))
	}
	if !slices.IsSorted(bads) || len(slices.Compact(slices.Clone(bads))) != len(bads) {
		t.Fatalf("%v: classes %v", what, bads)
	}
	for _, bad := range bads {
		if !slices.Contains(possible(op, kind), bad) {
			t.Fatalf("%v: class %d can't be", what, bad)
		}
	}
	met := map[int]int{}
	tell(func(n int, bad int) {
		met[bad]++
		if bad == api.BadNone && !samples.Has(v, n) {
			t.Fatalf("%v: %d is not told: %+v", what, n, v)
		}
		if bad != api.BadNone && !slices.Contains(bads, bad) {
			t.Fatalf("%v: class %d is not told: %v", what, bad, bads)
		}
	})
	for _, bad := range bads {
		if whole && met[bad] == 0 {
			t.Fatalf("%v: class %d does not happen", what, bad)
		}
	}
}

// answer is what alu tells of two numbers.
type answer struct{ n, bad int }

// asked is what alu tells of two numbers, each time anew.
func asked(t *testing.T, op int, kind int) func(int, int) answer {
	return func(x int, y int) answer {
		n, bad, e := alu.Two(op, kind, x, y)
		if e != api.OK {
			t.Fatalf("alu.Two(%d, %d, %d, %d): %d", op, kind, x, y, e)
		}
		return answer{n, bad}
	}
}

// kept is what alu tells of two numbers of 8 bits, asked once.
func kept(t *testing.T, op int, kind int) func(int, int) answer {
	tell := asked(t, op, kind)
	l := make([]answer, 1<<16)
	for i := range l {
		l[i] = tell(i>>8, i&255)
	}
	return func(x int, y int) answer { return l[x<<8|y] }
}

// twoHolds checks Two of members of a and of b, of which tell is what alu tells;
// whole: of all of them.
func twoHolds(t *testing.T, op int, kind int, a api.Val, b api.Val, la []int, lb []int, tell func(x int, y int) answer, whole bool) {
	t.Helper()
	what := []any{"Two", op, kind, a, b}
	v, bads, e := maths.Two(op, kind, a, b)
	if e != api.OK {
		t.Fatalf("%v: %d", what, e)
	}
	holds(t, what, v, bads, op, kind, func(hold func(int, int)) {
		for _, x := range la {
			for _, y := range lb {
				told := tell(x, y)
				hold(told.n, told.bad)
			}
		}
	}, whole)
}

// oneHolds checks One of members of a.
func oneHolds(t *testing.T, op int, kind int, a api.Val, la []int, whole bool) {
	t.Helper()
	what := []any{"One", op, kind, a}
	v, bads, e := maths.One(op, kind, a)
	if e != api.OK {
		t.Fatalf("%v: %d", what, e)
	}
	holds(t, what, v, bads, op, kind, func(hold func(int, int)) {
		for _, x := range la {
			n, bad, e := alu.One(op, kind, x)
			if e != api.OK {
				t.Fatalf("alu.One(%d, %d, %d): %d", op, kind, x, e)
			}
			hold(n, bad)
		}
	}, whole)
}

// castHolds checks Cast of members of a.
func castHolds(t *testing.T, from int, to int, a api.Val, la []int) {
	t.Helper()
	v, e := maths.Cast(from, to, a)
	if e != api.OK || val.Check(v) != api.OK || v.Width != samples.Width(to) {
		t.Fatalf("Cast(%d, %d, %+v) = %+v, %d", from, to, a, v, e)
	}
	for _, x := range la {
		n, e := alu.Cast(from, to, x)
		if e != api.OK || !samples.Has(v, n) {
			t.Fatalf("Cast(%d, %d, %+v) = %+v: %d is %d, %d", from, to, a, v, x, n, e)
		}
	}
}

// P4.1, P4.3 of 8 bits, held against all pairs of members.
func TestTwoAllMembers(t *testing.T) {
	l := samples.Sets(8)
	r := rand.New(rand.NewSource(4))
	number := func() int { return int(r.Uint64()) }
	for range 25 {
		l = append(l, samples.Some(number, 8))
	}
	members := make([][]int, len(l))
	for i, v := range l {
		members[i] = samples.Members(v)
	}
	for _, kind := range []int{api.KU8, api.KI8} {
		for _, op := range opsOfTwo() {
			tell := kept(t, op, kind)
			for i, a := range l {
				for k, b := range l {
					twoHolds(t, op, kind, a, b, members[i], members[k], tell, true)
				}
			}
		}
	}
}

// P4.2, P4.3 of 8 bits, held against all members one by one.
func TestOneAllMembers(t *testing.T) {
	l := samples.Sets(8)
	r := rand.New(rand.NewSource(6))
	number := func() int { return int(r.Uint64()) }
	for range 1000 {
		l = append(l, samples.Some(number, 8))
	}
	for _, a := range l {
		members := samples.Members(a)
		for _, kind := range []int{api.KU8, api.KI8} {
			for _, op := range opsOfOne() {
				oneHolds(t, op, kind, a, members, true)
			}
			for _, to := range samples.Kinds() {
				castHolds(t, kind, to, a, members)
			}
		}
	}
}

// P4.1, P4.2, P4.3 of 16 and 32 bits, held against members here and there.
func TestSomeMembers(t *testing.T) {
	r := rand.New(rand.NewSource(5))
	number := func() int { return int(r.Uint64()) }
	for _, kind := range samples.Kinds()[2:] {
		l := samples.Sets(samples.Width(kind))
		for range 60 {
			l = append(l, samples.Some(number, samples.Width(kind)))
		}
		members := make([][]int, len(l))
		for i, v := range l {
			members[i] = samples.Sample(number, v)
		}
		for i, a := range l {
			for _, op := range opsOfTwo() {
				tell := asked(t, op, kind)
				k := r.Intn(4) // not all pairs: they are many
				for ; k < len(l); k += 1 + r.Intn(5) {
					twoHolds(t, op, kind, a, l[k], members[i], members[k], tell, false)
				}
			}
			for _, op := range opsOfOne() {
				oneHolds(t, op, kind, a, members[i], false)
			}
			for _, to := range samples.Kinds() {
				castHolds(t, kind, to, a, members[i])
			}
		}
	}
}

// isJust is whether a call told just n and no class, or no number and the class.
func isJust(v api.Val, bads []int, n int, bad int) bool {
	if bad != api.BadNone {
		empty, e := val.Empty(v)
		return e == api.OK && empty && slices.Equal(bads, []int{bad})
	}
	is, m, e := val.Single(v)
	return e == api.OK && is && m == n && len(bads) == 0
}

// P4.1: of two single ones just what alu tells, all numbers of 8 bits.
func TestTwoSingle(t *testing.T) {
	for _, kind := range []int{api.KU8, api.KI8} {
		for _, op := range opsOfTwo() {
			for a := range 256 {
				for b := a % 5; b < 256; b += 1 + b%7 {
					n, bad, _ := alu.Two(op, kind, a, b)
					v, bads, e := maths.Two(op, kind, samples.Just(8, a), samples.Just(8, b))
					if e != api.OK || v.Width != answerWidth(op, kind) || !isJust(v, bads, n, bad) {
						t.Fatalf("Two(%d, %d, %d, %d) = %+v, %v, %d; want %d, %d", op, kind, a, b, v, bads, e, n, bad)
					}
				}
			}
		}
	}
}

// edges are numbers of a width at which something turns.
func edges(w int) []int {
	top, half := 1<<w-1, 1<<(w-1)
	return []int{0, 1, 2, 3, 7, w - 1, w, w + 1, half >> 1, half - 1, half, half + 1, top - w, top - 2, top - 1, top}
}

// twoIsJust checks each operator of two sets of just a and just b.
func twoIsJust(t *testing.T, kind int, x api.Val, y api.Val, a int, b int) {
	t.Helper()
	for _, op := range opsOfTwo() {
		n, bad, _ := alu.Two(op, kind, a, b)
		if v, bads, e := maths.Two(op, kind, x, y); e != api.OK || !isJust(v, bads, n, bad) {
			t.Fatalf("Two(%d, %d, %+v, %+v) = %+v, %v, %d; want %d, %d", op, kind, x, y, v, bads, e, n, bad)
		}
	}
}

// P4.1, P4.2: the same at the edges of all widths, in whatever form a single one comes.
func TestEdgesSingle(t *testing.T) {
	for _, kind := range samples.Kinds() {
		w := samples.Width(kind)
		for _, a := range edges(w) {
			for _, x := range samples.Singles(w, a) {
				for _, b := range edges(w) {
					for _, y := range samples.Singles(w, b) {
						twoIsJust(t, kind, x, y, a, b)
					}
				}
				for _, op := range opsOfOne() {
					n, bad, _ := alu.One(op, kind, a)
					if v, bads, e := maths.One(op, kind, x); e != api.OK || !isJust(v, bads, n, bad) {
						t.Fatalf("One(%d, %d, %+v) = %+v, %v, %d; want %d, %d", op, kind, x, v, bads, e, n, bad)
					}
				}
				for _, to := range samples.Kinds() {
					n, _ := alu.Cast(kind, to, a)
					if v, e := maths.Cast(kind, to, x); e != api.OK || !isJust(v, nil, n, api.BadNone) {
						t.Fatalf("Cast(%d, %d, %+v) = %+v, %d; want %d", kind, to, x, v, e, n)
					}
				}
			}
		}
	}
}

// P4.1, the edges written out: what is told of single ones.
func TestEdgesWrittenOut(t *testing.T) {
	for i, c := range []struct{ op, kind, a, b, n, bad int }{
		{api.EAdd, api.KU8, 200, 100, 44, api.BadNone},
		{api.EAdd, api.KI8, 100, 100, 0, api.BadOver},
		{api.ESub, api.KI32, 1 << 31, 1, 0, api.BadOver},
		{api.EMul, api.KU32, 1<<32 - 1, 1<<32 - 1, 1, api.BadNone},
		{api.EMul, api.KI32, 1 << 31, 1<<32 - 1, 0, api.BadOver},
		{api.EDiv, api.KI8, 128, 255, 0, api.BadOver},
		{api.EDiv, api.KI8, 249, 2, 253, api.BadNone},
		{api.EDiv, api.KU16, 7, 0, 0, api.BadZero},
		{api.ERem, api.KI8, 128, 255, 0, api.BadOver},
		{api.ERem, api.KI16, 65529, 2, 65535, api.BadNone},
		{api.EShl, api.KU32, 1<<32 - 1, 31, 1 << 31, api.BadNone},
		{api.EShr, api.KI8, 128, 7, 255, api.BadNone},
		{api.EShr, api.KI8, 1, 255, 0, api.BadShift},
		{api.EEq, api.KI8, 255, 255, 1, api.BadNone},
		{api.ELess, api.KI8, 255, 1, 1, api.BadNone},
		{api.ELess, api.KU8, 255, 1, 0, api.BadNone},
	} {
		w := samples.Width(c.kind)
		v, bads, e := maths.Two(c.op, c.kind, samples.Just(w, c.a), samples.Just(w, c.b))
		if e != api.OK || !isJust(v, bads, c.n, c.bad) {
			t.Errorf("%d: %+v, %v, %d", i, v, bads, e)
		}
	}
}

// P4.1, P4.2: of an empty set an empty one, and no class, whatever the other is;
// a set may have no member without None.
func TestEmpty(t *testing.T) {
	isNothing := func(v api.Val, bads []int, e api.Errno, w int) bool {
		empty, f := val.Empty(v)
		return e == api.OK && f == api.OK && empty && v.Width == w && len(bads) == 0
	}
	for _, kind := range samples.Kinds() {
		w := samples.Width(kind)
		for _, none := range samples.Empties(w) {
			for _, other := range append(samples.Sets(w), none) {
				for _, op := range opsOfTwo() {
					v, bads, e := maths.Two(op, kind, none, other)
					if !isNothing(v, bads, e, answerWidth(op, kind)) {
						t.Errorf("Two(%d, %d, %+v, %+v) = %+v, %v, %d", op, kind, none, other, v, bads, e)
					}
					v, bads, e = maths.Two(op, kind, other, none)
					if !isNothing(v, bads, e, answerWidth(op, kind)) {
						t.Errorf("Two(%d, %d, %+v, %+v) = %+v, %v, %d", op, kind, other, none, v, bads, e)
					}
				}
			}
			for _, op := range opsOfOne() {
				if v, bads, e := maths.One(op, kind, none); !isNothing(v, bads, e, answerWidth(op, kind)) {
					t.Errorf("One(%d, %d, %+v) = %+v, %v, %d", op, kind, none, v, bads, e)
				}
			}
			for _, to := range samples.Kinds() {
				if v, e := maths.Cast(kind, to, none); !isNothing(v, nil, e, samples.Width(to)) {
					t.Errorf("Cast(%d, %d, %+v) = %+v, %d", kind, to, none, v, e)
				}
			}
		}
	}
}

// refused is whether a call told ErrForm and nothing else.
func refused(v api.Val, bads []int, e api.Errno) bool {
	return v == api.Val{} && bads == nil && e == api.ErrForm
}

// P4.1, P4.2: sets that may not be, or are of another width.
func TestStrangeSets(t *testing.T) {
	for _, kind := range samples.Kinds() {
		w := samples.Width(kind)
		for _, wrong := range samples.Strange(w) {
			for _, other := range append([]api.Val{samples.None(w), samples.Just(w, 0), samples.Row(w, 0, 1<<w-1)}, wrong) {
				for _, op := range opsOfTwo() {
					if v, bads, e := maths.Two(op, kind, wrong, other); !refused(v, bads, e) {
						t.Errorf("Two(%d, %d, %+v, %+v) = %+v, %v, %d", op, kind, wrong, other, v, bads, e)
					}
					if v, bads, e := maths.Two(op, kind, other, wrong); !refused(v, bads, e) {
						t.Errorf("Two(%d, %d, %+v, %+v) = %+v, %v, %d", op, kind, other, wrong, v, bads, e)
					}
				}
			}
			for _, op := range opsOfOne() {
				if v, bads, e := maths.One(op, kind, wrong); !refused(v, bads, e) {
					t.Errorf("One(%d, %d, %+v) = %+v, %v, %d", op, kind, wrong, v, bads, e)
				}
			}
			for _, to := range samples.Kinds() {
				if v, e := maths.Cast(kind, to, wrong); !refused(v, nil, e) {
					t.Errorf("Cast(%d, %d, %+v) = %+v, %d", kind, to, wrong, v, e)
				}
			}
		}
	}
}

// P4.1, P4.2: no operator of two, or of one.
func TestNoOperators(t *testing.T) {
	for _, kind := range samples.Kinds() {
		w := samples.Width(kind)
		for _, v := range []api.Val{samples.None(w), samples.Just(w, 1), samples.Row(w, 0, 1<<w-1)} {
			for _, op := range []int{api.ENone, api.ENum, api.ECast, api.ENeg, api.ENot, api.EZero, api.EMove, api.EApart, api.ESame, -1, 99, math.MaxInt, math.MinInt} {
				if told, bads, e := maths.Two(op, kind, v, v); !refused(told, bads, e) {
					t.Errorf("Two(%d, %d) = %+v, %v, %d", op, kind, told, bads, e)
				}
			}
			for _, op := range []int{api.ENone, api.ENum, api.ECast, api.EAdd, api.ELess, api.EMove, -1, 99, math.MaxInt, math.MinInt} {
				if told, bads, e := maths.One(op, kind, v); !refused(told, bads, e) {
					t.Errorf("One(%d, %d) = %+v, %v, %d", op, kind, told, bads, e)
				}
			}
		}
	}
}

// P4.1, P4.2: no kind of numbers.
func TestNoKinds(t *testing.T) {
	for _, kind := range samples.NotKinds() {
		for _, v := range []api.Val{{}, samples.Just(8, 1), samples.None(16), samples.Row(32, 0, 5)} {
			for _, op := range opsOfTwo() {
				if told, bads, e := maths.Two(op, kind, v, v); !refused(told, bads, e) {
					t.Errorf("Two(%d, %d, %+v) = %+v, %v, %d", op, kind, v, told, bads, e)
				}
			}
			for _, op := range opsOfOne() {
				if told, bads, e := maths.One(op, kind, v); !refused(told, bads, e) {
					t.Errorf("One(%d, %d, %+v) = %+v, %v, %d", op, kind, v, told, bads, e)
				}
			}
			if told, e := maths.Cast(kind, api.KU8, v); !refused(told, nil, e) {
				t.Errorf("Cast(%d, KU8, %+v) = %+v, %d", kind, v, told, e)
			}
			if told, e := maths.Cast(api.KU8, kind, samples.Just(8, 1)); !refused(told, nil, e) {
				t.Errorf("Cast(KU8, %d) = %+v, %d", kind, told, e)
			}
		}
	}
}

// P4.1, what is told of rows is no more than can be, where a set can say it.
func TestTwoTight(t *testing.T) {
	fours := api.Val{Width: 8, High: 255, Free: 252}
	for i, c := range []struct {
		op, kind int
		a, b     api.Val
		want     api.Val
		bads     []int
	}{
		{api.EAdd, api.KU8, samples.Row(8, 10, 20), samples.Row(8, 1, 5), samples.Row(8, 11, 25), nil},
		{api.EAdd, api.KU8, samples.Row(8, 250, 255), samples.Row(8, 1, 5), samples.Row(8, 251, 4), nil},
		{api.EAdd, api.KI8, samples.Row(8, 100, 127), samples.Row(8, 1, 9), samples.Row(8, 101, 127), []int{api.BadOver}},
		{api.EAdd, api.KU8, samples.Row(8, 6, 4), samples.Just(8, 1), samples.Row(8, 7, 5), nil},
		{api.ESub, api.KU8, samples.Row(8, 0, 10), samples.Just(8, 1), samples.Row(8, 255, 9), nil},
		{api.ESub, api.KI8, samples.Row(8, 246, 10), samples.Row(8, 0, 5), samples.Row(8, 241, 10), nil},
		{api.EMul, api.KU8, samples.Row(8, 0, 9), samples.Just(8, 4), api.Val{Width: 8, High: 36, Free: 60}, nil},
		{api.EMul, api.KI8, samples.Row(8, 246, 10), samples.Row(8, 253, 3), samples.Row(8, 226, 30), nil},
		{api.EDiv, api.KU8, samples.Row(8, 20, 100), samples.Row(8, 2, 10), samples.Row(8, 2, 50), nil},
		{api.EDiv, api.KI8, samples.Row(8, 128, 131), samples.Row(8, 254, 255), samples.Row(8, 62, 127), []int{api.BadOver}},
		{api.EDiv, api.KU8, samples.Row(8, 0, 255), samples.Row(8, 0, 5), samples.Row(8, 0, 255), []int{api.BadZero}},
		{api.ERem, api.KU8, samples.Row(8, 0, 255), samples.Just(8, 10), samples.Row(8, 0, 9), nil},
		{api.ERem, api.KU8, samples.Row(8, 0, 255), samples.Just(8, 16), api.Val{Width: 8, High: 15, Free: 15}, nil},
		{api.ERem, api.KU8, samples.Row(8, 25, 29), samples.Just(8, 10), samples.Row(8, 5, 9), nil},
		{api.ERem, api.KI8, samples.Row(8, 128, 255), samples.Row(8, 5, 9), samples.Row(8, 248, 0), nil},
		{api.ERem, api.KU8, samples.Row(8, 3, 9), samples.Row(8, 10, 20), samples.Row(8, 3, 9), nil},
		{api.ERem, api.KU8, fours, samples.Just(8, 10), api.Val{Width: 8, High: 8, Free: 254}, nil},
		{api.EAnd, api.KU8, samples.Row(8, 0, 255), samples.Just(8, 15), api.Val{Width: 8, High: 15, Free: 15}, nil},
		{api.EAnd, api.KU8, samples.Row(8, 0, 5), samples.Row(8, 0, 255), samples.Row(8, 0, 5), nil},
		{api.EAnd, api.KI8, samples.Row(8, 128, 255), samples.Row(8, 0, 9), samples.Row(8, 0, 9), nil},
		{api.EOr, api.KU8, samples.Row(8, 100, 120), samples.Row(8, 0, 255), samples.Row(8, 100, 255), nil},
		{api.EOr, api.KU8, samples.Row(8, 0, 255), samples.Row(8, 100, 120), samples.Row(8, 100, 255), nil},
		{api.EOr, api.KU8, fours, samples.Just(8, 2), api.Val{Width: 8, High: 255, Free: 252, Bits: 2}, nil},
		{api.EXor, api.KU8, samples.Row(8, 0, 7), samples.Just(8, 8), api.Val{Width: 8, High: 255, Free: 7, Bits: 8}, nil},
		{api.EShl, api.KU8, samples.Row(8, 0, 9), samples.Just(8, 2), api.Val{Width: 8, High: 36, Free: 60}, nil},
		{api.EShr, api.KI8, samples.Row(8, 128, 200), samples.Just(8, 3), samples.Row(8, 240, 249), nil},
		{api.EShl, api.KU8, samples.Just(8, 1), samples.Row(8, 0, 255), samples.Row(8, 1, 128), []int{api.BadShift}},
		{api.EEq, api.KU8, samples.Row(8, 7, 7), samples.Just(8, 7), samples.Just(32, 1), nil},
		{api.EEq, api.KU8, samples.Row(8, 0, 9), samples.Row(8, 10, 20), samples.Just(32, 0), nil},
		{api.ELess, api.KI8, samples.Row(8, 200, 255), samples.Row(8, 0, 9), samples.Just(32, 1), nil},
		{api.ELess, api.KU8, samples.Row(8, 200, 255), samples.Row(8, 0, 200), samples.Just(32, 0), nil},
	} {
		v, bads, e := maths.Two(c.op, c.kind, c.a, c.b)
		is, f := val.In(v, c.want)
		if e != api.OK || f != api.OK || !is || !slices.Equal(bads, c.bads) {
			t.Errorf("%d: %+v, %v, %d; want %+v, %v", i, v, bads, e, c.want, c.bads)
		}
	}
}

// P4.2, likewise.
func TestOneTight(t *testing.T) {
	for i, c := range []struct {
		op, kind int
		a        api.Val
		want     api.Val
		bads     []int
	}{
		{api.ENeg, api.KU8, samples.Row(8, 0, 9), samples.Row(8, 247, 0), nil},
		{api.ENeg, api.KI8, samples.Row(8, 128, 137), samples.Row(8, 119, 127), []int{api.BadOver}},
		{api.ENot, api.KU8, samples.Row(8, 10, 20), samples.Row(8, 235, 245), nil},
		{api.EZero, api.KI8, samples.Row(8, 1, 255), samples.Just(32, 0), nil},
		{api.EZero, api.KU8, samples.Row(8, 255, 5), samples.Row(32, 0, 1), nil},
	} {
		v, bads, e := maths.One(c.op, c.kind, c.a)
		is, f := val.In(v, c.want)
		if e != api.OK || f != api.OK || !is || !slices.Equal(bads, c.bads) {
			t.Errorf("%d: %+v, %v, %d; want %+v, %v", i, v, bads, e, c.want, c.bads)
		}
	}
	for i, c := range []struct {
		from, to int
		a        api.Val
		want     api.Val
	}{
		{api.KI8, api.KU16, samples.Row(8, 250, 5), samples.Row(16, 65530, 5)},
		{api.KU8, api.KU16, samples.Row(8, 200, 255), samples.Row(16, 200, 255)},
		{api.KU32, api.KU8, samples.Row(32, 510, 515), samples.Row(8, 254, 3)},
		{api.KI32, api.KI8, api.Val{Width: 32, High: 1<<32 - 1, Free: 1<<32 - 4}, api.Val{Width: 8, High: 255, Free: 252}},
	} {
		v, e := maths.Cast(c.from, c.to, c.a)
		is, f := val.In(v, c.want)
		if e != api.OK || f != api.OK || !is {
			t.Errorf("%d: %+v, %d; want %+v", i, v, e, c.want)
		}
	}
}

// The chapter's example, of all kinds; P4.3: it is told, among the others.
func TestExample(t *testing.T) {
	for _, kind := range samples.Kinds() {
		w := samples.Width(kind)
		for _, a := range []api.Val{samples.Just(w, 5), samples.Row(w, 0, 1<<w-1)} {
			for _, b := range []api.Val{samples.Just(w, 0), samples.Row(w, 0, 3), samples.Row(w, 1<<w-1, 1), samples.Row(w, 0, 1<<w-1)} {
				for _, op := range []int{api.EDiv, api.ERem} {
					if _, bads, e := maths.Two(op, kind, a, b); e != api.OK || !slices.Contains(bads, api.BadZero) {
						t.Errorf("Two(%d, %d, %+v, %+v): %v, %d", op, kind, a, b, bads, e)
					}
				}
			}
		}
	}
	all := samples.Row(8, 0, 255)
	if _, bads, e := maths.Two(api.EDiv, api.KI8, all, all); e != api.OK || !slices.Equal(bads, []int{api.BadOver, api.BadZero}) {
		t.Errorf("EDiv of all: %v, %d", bads, e)
	}
}

// R2: a list that is told is new memory, spare room too.
func TestToldIsNew(t *testing.T) {
	all := samples.Row(8, 0, 255)
	_, first, _ := maths.Two(api.EDiv, api.KI8, all, all)
	for i := range first[:cap(first)] {
		first[:cap(first)][i] = -1
	}
	_, again, _ := maths.Two(api.EDiv, api.KI8, all, all)
	if !slices.Equal(again, []int{api.BadOver, api.BadZero}) {
		t.Errorf("told %v", again)
	}
}

// R1: how goroutines take turns is not to be seen.
func TestTogether(t *testing.T) {
	a, b := samples.Row(8, 250, 20), samples.Row(8, 255, 9)
	want, bads, _ := maths.Two(api.EDiv, api.KI8, a, b)
	samples.Together(func() {
		v, l, e := maths.Two(api.EDiv, api.KI8, a, b)
		if v != want || !slices.Equal(l, bads) || e != api.OK {
			t.Errorf("told %+v, %v, %d", v, l, e)
		}
	})
}
