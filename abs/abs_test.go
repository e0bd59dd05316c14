package abs_test

import (
	"math"
	"math/rand"
	"testing"

	"cellar/abs"
	"cellar/api"
	"cellar/samples"
	"cellar/val"
)

// The face: each line stops compiling if a signature changes.
var (
	_ func(int, api.Abs) api.Errno                     = abs.Check
	_ func(int, api.Abs, api.Scalar) (bool, api.Errno) = abs.Has
	_ func(int, api.Scalar) (api.Abs, api.Errno)       = abs.One
	_ func(int, int) (api.Abs, api.Errno)              = abs.All
	_ func(int, api.Abs) (bool, api.Errno)             = abs.Empty
	_ func(int, api.Abs) (bool, api.Scalar, api.Errno) = abs.Single
	_ func(int, api.Abs, api.Abs) (api.Abs, api.Errno) = abs.Join
	_ func(int, api.Abs, api.Abs) (api.Abs, api.Errno) = abs.Meet
	_ func(int, api.Abs, api.Abs) (bool, api.Errno)    = abs.In
	_ func(int, api.Abs, api.Abs) (api.Abs, api.Errno) = abs.Wide
)

// numbers tells a new number each time, the same ones for the same seed.
func numbers(seed int64) func() int {
	r := rand.New(rand.NewSource(seed))
	return func() int { return int(r.Uint64()) }
}

// to are pointers to one block.
func to(block int, off api.Val) api.Abs {
	return samples.PointerSet(samples.Base(block, off))
}

// pool are scalars of a kind: of pointers and of 8 bits all, else some.
func pool(kind int) []api.Scalar {
	if kind == api.KPtr {
		return samples.AllPointers()
	}
	var l []api.Scalar
	if samples.Width(kind) == 8 {
		for n := range 256 {
			l = append(l, samples.Number(n))
		}
		return l
	}
	for n := range 70 {
		l = append(l, samples.Number(n), samples.Number(1<<samples.Width(kind)-1-n))
	}
	return append(l, samples.Scalars(kind)...)
}

// P15.1, Check: sets that may be, of their kind alone.
func TestCheck(t *testing.T) {
	for _, kind := range samples.ScalarKinds() {
		for _, x := range samples.ManyAbses(numbers(1), kind, 200) {
			if e := abs.Check(kind, x); e != api.OK {
				t.Errorf("Check(%d, %+v) = %d", kind, x, e)
			}
			for _, other := range samples.ScalarKinds() {
				alike := other == kind || kind != api.KPtr && other != api.KPtr && samples.Width(kind) == samples.Width(other)
				if e := abs.Check(other, x); (e == api.OK) != alike {
					t.Errorf("Check(%d, %+v), which is of %d, = %d", other, x, kind, e)
				}
			}
		}
	}
}

// refused checks that all calls that take x as a set of kind refuse it, in each place.
func refused(t *testing.T, kind int, x api.Abs, s api.Scalar, others ...api.Abs) {
	t.Helper()
	is1, e1 := abs.Has(kind, x, s)
	is2, e2 := abs.Empty(kind, x)
	is3, s3, e3 := abs.Single(kind, x)
	if abs.Check(kind, x) != api.ErrForm || is1 || e1 != api.ErrForm || is2 || e2 != api.ErrForm || is3 || s3 != (api.Scalar{}) || e3 != api.ErrForm {
		t.Errorf("of %d, %+v: Has %v, %d; Empty %v, %d; Single %v, %+v, %d", kind, x, is1, e1, is2, e2, is3, s3, e3)
	}
	for _, other := range others {
		notTogether(t, kind, x, other)
		notTogether(t, kind, other, x)
	}
}

// notTogether checks that the calls on two sets refuse these.
func notTogether(t *testing.T, kind int, a api.Abs, b api.Abs) {
	t.Helper()
	for i, two := range []func(int, api.Abs, api.Abs) (api.Abs, api.Errno){abs.Join, abs.Meet, abs.Wide} {
		if x, e := two(kind, a, b); e != api.ErrForm || !samples.AlikeAbs(x, api.Abs{}) {
			t.Errorf("%d of %d, %+v, %+v: %+v, %d", i, kind, a, b, x, e)
		}
	}
	if is, e := abs.In(kind, a, b); e != api.ErrForm || is {
		t.Errorf("In(%d, %+v, %+v) = %v, %d", kind, a, b, is, e)
	}
}

// P15.1 and P15.2: sets that may not be, in each place.
func TestNotSets(t *testing.T) {
	for _, kind := range samples.ScalarKinds() {
		fine := samples.Abses(kind)
		for i, x := range samples.NotAbses(kind) {
			refused(t, kind, x, samples.Scalars(kind)[0], fine[i%len(fine)], fine[0], x)
		}
		all, _ := abs.All(kind, samples.MostBlock)
		for _, empty := range samples.EmptyAbses(kind) {
			for _, x := range samples.NotAbses(kind) {
				notTogether(t, kind, empty, x)
				notTogether(t, kind, x, all)
			}
		}
	}
}

// P15.1 and P15.2: kinds that are none of scalars; sets of another kind.
func TestNotKinds(t *testing.T) {
	for _, of := range samples.ScalarKinds() {
		x := samples.Abses(of)[1]
		for _, kind := range samples.NotScalarKinds() {
			refused(t, kind, x, samples.Scalars(of)[0], x)
			refused(t, kind, api.Abs{}, api.Scalar{}, x)
		}
		for _, other := range samples.ScalarKinds() {
			y := samples.Abses(other)[1]
			if abs.Check(of, y) != api.OK {
				refused(t, of, y, samples.Scalars(of)[0], x)
			}
		}
	}
	for _, kind := range samples.NotScalarKinds() {
		for _, s := range []api.Scalar{{}, samples.Number(3), samples.Null(), samples.Pointer(1, 0)} {
			if x, e := abs.One(kind, s); e != api.ErrForm || !samples.AlikeAbs(x, api.Abs{}) {
				t.Errorf("One(%d, %+v) = %+v, %d", kind, s, x, e)
			}
		}
		for blocks := range samples.MostBlock + 1 {
			if x, e := abs.All(kind, blocks); e != api.ErrForm || !samples.AlikeAbs(x, api.Abs{}) {
				t.Errorf("All(%d, %d) = %+v, %d", kind, blocks, x, e)
			}
		}
	}
}

// P15.1, Has: written out, and against the chapter's words.
func TestHas(t *testing.T) {
	wrap := to(2, samples.Row(8, 30, 5))
	for _, c := range []struct {
		kind int
		x    api.Abs
		s    api.Scalar
		is   bool
	}{
		{api.KU8, samples.NumberSet(samples.Row(8, 3, 9)), samples.Number(9), true},
		{api.KU8, samples.NumberSet(samples.Row(8, 3, 9)), samples.Number(10), false},
		{api.KI32, samples.NumberSet(samples.Row(32, 1<<32-1, 1)), samples.Number(0), true},
		{api.KPtr, api.Abs{}, samples.Null(), false},
		{api.KPtr, to(0, samples.Just(8, 0)), samples.Null(), true},
		{api.KPtr, to(0, samples.Just(8, 0)), samples.Pointer(1, 0), false},
		{api.KPtr, to(1, samples.Just(8, 0)), samples.Pointer(1, 0), true},
		{api.KPtr, to(1, samples.Just(8, 0)), samples.Null(), false},
		{api.KPtr, to(1, samples.Just(8, 0)), samples.Pointer(2, 0), false},
		{api.KPtr, to(6, samples.Row(8, 30, 99)), samples.Pointer(6, 32), true},
		{api.KPtr, to(6, samples.Row(8, 30, 99)), samples.Pointer(6, 29), false},
		{api.KPtr, wrap, samples.Pointer(2, 30), true},
		{api.KPtr, wrap, samples.Pointer(2, 5), true},
		{api.KPtr, wrap, samples.Pointer(2, 6), false},
		{api.KPtr, wrap, samples.Pointer(3, 0), false},
	} {
		if is, e := abs.Has(c.kind, c.x, c.s); is != c.is || e != api.OK {
			t.Errorf("Has(%d, %+v, %+v) = %v, %d", c.kind, c.x, c.s, is, e)
		}
	}
	for _, kind := range samples.ScalarKinds() {
		l := pool(kind)
		for _, x := range samples.ManyAbses(numbers(2), kind, 200) {
			for _, s := range l {
				if is, e := abs.Has(kind, x, s); is != samples.AbsHas(kind, x, s) || e != api.OK {
					t.Fatalf("Has(%d, %+v, %+v) = %v, %d", kind, x, s, is, e)
				}
			}
		}
	}
}

// notScalars are those that no set of a kind could have.
func notScalars(kind int) []api.Scalar {
	l := samples.NotScalars(kind)
	if kind == api.KPtr {
		for _, block := range []int{samples.MostBlock + 1, samples.MostBlock + 2, 31, api.MaxSize} {
			l = append(l, samples.Pointer(block, 0), samples.Pointer(block, api.MaxSize))
		}
	}
	return l
}

// P15.1, Has and One: scalars that may not be, those of blocks that there can't be too.
func TestNotScalars(t *testing.T) {
	for _, kind := range samples.ScalarKinds() {
		for _, s := range notScalars(kind) {
			for _, x := range samples.Abses(kind) {
				if is, e := abs.Has(kind, x, s); is || e != api.ErrForm {
					t.Errorf("Has(%d, %+v, %+v) = %v, %d", kind, x, s, is, e)
				}
			}
			if x, e := abs.One(kind, s); e != api.ErrForm || !samples.AlikeAbs(x, api.Abs{}) {
				t.Errorf("One(%d, %+v) = %+v, %d", kind, s, x, e)
			}
		}
	}
}

// P15.1, One: just the scalar; the chapter's example.
func TestOne(t *testing.T) {
	for _, kind := range samples.ScalarKinds() {
		l := pool(kind)
		for _, s := range l {
			x, e := abs.One(kind, s)
			if e != api.OK || abs.Check(kind, x) != api.OK {
				t.Fatalf("One(%d, %+v) = %+v, %d", kind, s, x, e)
			}
			for _, other := range l {
				if samples.AbsHas(kind, x, other) != (other == s) {
					t.Fatalf("One(%d, %+v) = %+v: %+v", kind, s, x, other)
				}
			}
			is, one, e := abs.Single(kind, x)
			if no, f := abs.Empty(kind, x); !is || one != s || e != api.OK || no || f != api.OK {
				t.Fatalf("Single(One(%d, %+v)) = %v, %+v, %d; Empty %v", kind, s, is, one, e, no)
			}
			if kind != api.KPtr && x.Num != samples.Just(samples.Width(kind), s.N) {
				t.Fatalf("One(%d, %+v) = %+v", kind, s, x)
			}
		}
	}
	if x, e := abs.One(api.KPtr, samples.Null()); e != api.OK || !samples.AlikeAbs(x, to(0, samples.Just(8, 0))) {
		t.Errorf("One of null = %+v, %d", x, e)
	}
}

// P15.1, All: everything, of pointers to blocks up to the last one, and nothing else.
func TestAll(t *testing.T) {
	for _, kind := range samples.ScalarKinds() {
		for blocks := range samples.MostBlock + 1 {
			x, e := abs.All(kind, blocks)
			if e != api.OK || abs.Check(kind, x) != api.OK {
				t.Fatalf("All(%d, %d) = %+v, %d", kind, blocks, x, e)
			}
			for _, s := range pool(kind) {
				if samples.AbsHas(kind, x, s) != (s.Block <= blocks) {
					t.Errorf("All(%d, %d) = %+v: %+v", kind, blocks, x, s)
				}
			}
			for _, b := range x.Ptrs {
				if in, _ := val.In(b.Off, samples.Row(8, 0, api.MaxSize)); !in {
					t.Errorf("All(%d, %d) = %+v: beyond what is a pointer's", kind, blocks, x)
				}
			}
		}
		for _, blocks := range []int{-1, samples.MostBlock + 1, api.MaxSize, math.MaxInt, math.MinInt} {
			if x, e := abs.All(kind, blocks); e != api.ErrForm || !samples.AlikeAbs(x, api.Abs{}) {
				t.Errorf("All(%d, %d) = %+v, %d", kind, blocks, x, e)
			}
		}
	}
}

// amount checks Empty and Single of x, whose members are these.
func amount(t *testing.T, kind int, x api.Abs, members []api.Scalar) {
	t.Helper()
	no, e := abs.Empty(kind, x)
	if no != (len(members) == 0) || e != api.OK {
		t.Errorf("Empty(%d, %+v) = %v, %d; want %v", kind, x, no, e, members)
	}
	want := api.Scalar{}
	if len(members) == 1 {
		want = members[0]
	}
	if is, s, e := abs.Single(kind, x); is != (len(members) == 1) || s != want || e != api.OK {
		t.Errorf("Single(%d, %+v) = %v, %+v, %d; want %v", kind, x, is, s, e, members)
	}
}

// P15.1, Empty and Single: of pointers and 8 bits against all members, those that only
// lie beyond what a pointer has among them.
func TestEmptyAndSingle(t *testing.T) {
	for _, kind := range []int{api.KU8, api.KI8, api.KPtr} {
		for _, x := range samples.ManyAbses(numbers(3), kind, 600) {
			amount(t, kind, x, samples.AbsMembers(kind, x))
		}
	}
}

// P15.1, Empty and Single: in all their forms; of 16 and 32 bits as val says.
func TestEmptyAndSingleForms(t *testing.T) {
	for _, kind := range samples.ScalarKinds() {
		for _, x := range samples.EmptyAbses(kind) {
			amount(t, kind, x, nil)
		}
		for _, s := range pool(kind) {
			for _, x := range samples.SingleAbses(kind, s) {
				amount(t, kind, x, []api.Scalar{s})
			}
		}
		if kind == api.KPtr {
			continue
		}
		for _, x := range samples.ManyAbses(numbers(4), kind, 300) {
			no, e := abs.Empty(kind, x)
			is, s, f := abs.Single(kind, x)
			none, _ := val.Empty(x.Num)
			one, n, _ := val.Single(x.Num)
			if no != none || is != one || s != samples.Number(n) || e != api.OK || f != api.OK {
				t.Errorf("of %d, %+v: %v, %v, %+v", kind, x, no, is, s)
			}
		}
	}
}

// P15.1, Single: two at one block, or one each at two, are not just one.
func TestTwoMembers(t *testing.T) {
	for _, l := range [][]api.Scalar{{samples.Null(), samples.Pointer(1, 0)}, {samples.Pointer(1, 0), samples.Pointer(6, 0)}, {samples.Pointer(1, 31), samples.Pointer(1, 32)}, {samples.Pointer(5, 0), samples.Pointer(5, 32)}} {
		a, _ := abs.One(api.KPtr, l[0])
		b, _ := abs.One(api.KPtr, l[1])
		x, e := abs.Join(api.KPtr, a, b)
		if e != api.OK {
			t.Fatalf("Join(%+v, %+v): %d", a, b, e)
		}
		amount(t, api.KPtr, x, l)
	}
}
