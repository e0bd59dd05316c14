package abs_test

import (
	"slices"
	"testing"

	"cellar/abs"
	"cellar/api"
	"cellar/grow"
	"cellar/samples"
	"cellar/val"
)

// tried is a set with its members, or some of them.
type tried struct {
	x       api.Abs
	members []api.Scalar
	empty   bool
	single  bool
}

// tries are sets of a kind; of pointers and of 8 bits members are all of them.
func tries(seed int64, kind int, more int) []tried {
	number := numbers(seed)
	var l []tried
	sets := append(samples.ManyAbses(number, kind, more), samples.EmptyAbses(kind)...)
	for _, x := range append(sets, samples.SingleAbses(kind, samples.Scalars(kind)[1])...) {
		y := tried{x: x, members: samples.SampleAbs(number, kind, x)}
		y.empty, y.single = len(y.members) == 0, len(y.members) == 1
		if kind != api.KPtr && samples.Width(kind) > 8 {
			y.empty, _ = val.Empty(x.Num)
			y.single, _, _ = val.Single(x.Num)
		}
		l = append(l, y)
	}
	return l
}

// hasAll is whether these are members of x.
func hasAll(kind int, x api.Abs, l []api.Scalar) bool {
	return !slices.ContainsFunc(l, func(s api.Scalar) bool { return !samples.AbsHas(kind, x, s) })
}

// isJust is whether s is the only member of x.
func isJust(kind int, x api.Abs, s api.Scalar) bool {
	is, one, e := abs.Single(kind, x)
	return is && one == s && e == api.OK
}

// joined checks Join, and that it is just the one if no other one comes.
func joined(t *testing.T, kind int, a tried, b tried) {
	t.Helper()
	x, e := abs.Join(kind, a.x, b.x)
	if e != api.OK || abs.Check(kind, x) != api.OK || !hasAll(kind, x, a.members) || !hasAll(kind, x, b.members) {
		t.Fatalf("Join(%d, %+v, %+v) = %+v, %d", kind, a.x, b.x, x, e)
	}
	no, _ := abs.Empty(kind, x)
	switch {
	case a.empty && b.empty:
		if !no {
			t.Fatalf("Join(%d, %+v, %+v) = %+v: of nothing", kind, a.x, b.x, x)
		}
	case a.single && (b.empty || b.single && a.members[0] == b.members[0]):
		if !isJust(kind, x, a.members[0]) {
			t.Fatalf("Join(%d, %+v, %+v) = %+v: not just one", kind, a.x, b.x, x)
		}
	case a.empty && b.single:
		if !isJust(kind, x, b.members[0]) {
			t.Fatalf("Join(%d, %+v, %+v) = %+v: not just one", kind, a.x, b.x, x)
		}
	}
}

// met checks Meet.
func met(t *testing.T, number func() int, kind int, a tried, b tried) {
	t.Helper()
	x, e := abs.Meet(kind, a.x, b.x)
	if e != api.OK || abs.Check(kind, x) != api.OK {
		t.Fatalf("Meet(%d, %+v, %+v) = %+v, %d", kind, a.x, b.x, x, e)
	}
	for _, s := range a.members {
		if samples.AbsHas(kind, b.x, s) && !samples.AbsHas(kind, x, s) {
			t.Fatalf("Meet(%d, %+v, %+v) = %+v: %+v is gone", kind, a.x, b.x, x, s)
		}
	}
	for _, s := range samples.SampleAbs(number, kind, x) {
		if !samples.AbsHas(kind, a.x, s) {
			t.Fatalf("Meet(%d, %+v, %+v) = %+v: %+v is new", kind, a.x, b.x, x, s)
		}
	}
	if no, _ := abs.Empty(kind, x); !no && (a.empty || b.empty) {
		t.Fatalf("Meet(%d, %+v, %+v) = %+v: of nothing", kind, a.x, b.x, x)
	}
}

// inside checks In, and Wide, which tells a itself where b is in it.
func inside(t *testing.T, kind int, a tried, b tried) {
	t.Helper()
	is, e := abs.In(kind, b.x, a.x)
	all := hasAll(kind, a.x, b.members)
	least := b.empty || samples.AlikeAbs(a.x, b.x) || b.single && all
	if e != api.OK || is && !all || least && !is {
		t.Fatalf("In(%d, %+v, %+v) = %v, %d", kind, b.x, a.x, is, e)
	}
	x, e := abs.Wide(kind, a.x, b.x)
	if e != api.OK || abs.Check(kind, x) != api.OK || !hasAll(kind, x, a.members) || !hasAll(kind, x, b.members) {
		t.Fatalf("Wide(%d, %+v, %+v) = %+v, %d", kind, a.x, b.x, x, e)
	}
	if is && !samples.AlikeAbs(x, a.x) {
		t.Fatalf("Wide(%d, %+v, %+v) = %+v: nothing was new", kind, a.x, b.x, x)
	}
}

// P15.2 of pointers, and of 8 bits, against all members; of more bits against some.
func TestPairs(t *testing.T) {
	number := numbers(5)
	for _, kind := range samples.ScalarKinds() {
		l := tries(6, kind, 40)
		for _, a := range l {
			keptA := samples.CloneAbs(a.x)
			for _, b := range l {
				keptB := samples.CloneAbs(b.x)
				joined(t, kind, a, b)
				met(t, number, kind, a, b)
				inside(t, kind, a, b)
				if !samples.AlikeAbs(a.x, keptA) || !samples.AlikeAbs(b.x, keptB) {
					t.Fatalf("%d: %+v, %+v changed to %+v, %+v", kind, keptA, keptB, a.x, b.x)
				}
			}
		}
	}
}

// P15.2 of numbers: as val and grow say.
func TestAsNumbers(t *testing.T) {
	for _, kind := range samples.Kinds() {
		l := samples.ManyAbses(numbers(7), kind, 60)
		for _, a := range l {
			for _, b := range l {
				join, _ := val.Join(a.Num, b.Num)
				meet, _ := val.Meet(a.Num, b.Num)
				wide, _ := grow.Wide(a.Num, b.Num)
				in, _ := val.In(a.Num, b.Num)
				x, _ := abs.Join(kind, a, b)
				y, _ := abs.Meet(kind, a, b)
				z, _ := abs.Wide(kind, a, b)
				is, _ := abs.In(kind, a, b)
				if x.Num != join || y.Num != meet || z.Num != wide || is != in || len(x.Ptrs)+len(y.Ptrs)+len(z.Ptrs) > 0 {
					t.Fatalf("of %d, %+v, %+v: %+v, %+v, %+v, %v", kind, a, b, x, y, z, is)
				}
			}
		}
	}
}

// P15.2 of pointers: In tells just what is so, whatever lies beyond MaxSize.
func TestInPointers(t *testing.T) {
	l := tries(8, api.KPtr, 150)
	for _, a := range l {
		for _, b := range l {
			if is, e := abs.In(api.KPtr, a.x, b.x); is != hasAll(api.KPtr, b.x, a.members) || e != api.OK {
				t.Fatalf("In(%+v, %+v) = %v, %d", a.x, b.x, is, e)
			}
		}
		all, _ := abs.All(api.KPtr, samples.MostBlock)
		if is, e := abs.In(api.KPtr, a.x, all); !is || e != api.OK {
			t.Errorf("In(%+v, All) = %v, %d", a.x, is, e)
		}
	}
}

// P15.2: what is told of one and the same scalar, in whatever forms it comes.
func TestSamePointer(t *testing.T) {
	for _, kind := range samples.ScalarKinds() {
		for i, s := range pool(kind) {
			forms := samples.SingleAbses(kind, s)
			empties := samples.EmptyAbses(kind)
			for k, x := range forms {
				other := forms[(k+i)%len(forms)]
				none := empties[(k+i)%len(empties)]
				for _, pair := range [][2]api.Abs{{x, other}, {x, none}, {none, x}} {
					if y, e := abs.Join(kind, pair[0], pair[1]); e != api.OK || !isJust(kind, y, s) {
						t.Fatalf("Join(%d, %+v, %+v) = %+v, %d", kind, pair[0], pair[1], y, e)
					}
				}
				if y, e := abs.Meet(kind, x, other); e != api.OK || !isJust(kind, y, s) {
					t.Fatalf("Meet(%d, %+v, %+v) = %+v, %d", kind, x, other, y, e)
				}
				if y, e := abs.Wide(kind, x, other); e != api.OK || !samples.AlikeAbs(y, x) {
					t.Fatalf("Wide(%d, %+v, %+v) = %+v, %d", kind, x, other, y, e)
				}
				if y, e := abs.Wide(kind, none, x); e != api.OK || !isJust(kind, y, s) {
					t.Fatalf("Wide(%d, %+v, %+v) = %+v, %d", kind, none, x, y, e)
				}
			}
		}
	}
}

// offsets are those of pointers to a block that x has.
func offsets(x api.Abs, block int) []int {
	var l []int
	for off := range api.MaxSize + 1 {
		if samples.AbsHas(api.KPtr, x, samples.Pointer(block, off)) {
			l = append(l, off)
		}
	}
	return l
}

// P15.2, what is told of pointers to one block: no more than need be.
func TestLittleAdded(t *testing.T) {
	row, just := samples.Row, samples.Just
	fours := api.Val{Width: 8, High: 32, Free: 252}
	for i, c := range []struct {
		two  func(int, api.Abs, api.Abs) (api.Abs, api.Errno)
		a, b api.Val
		want []int
	}{
		{abs.Join, just(8, 0), just(8, 4), []int{0, 4}},
		{abs.Join, just(8, 3), row(8, 4, 6), []int{3, 4, 5, 6}},
		{abs.Join, row(8, 32, 99), just(8, 31), []int{31, 32}},
		{abs.Join, row(8, 40, 99), row(8, 3, 4), []int{3, 4}},
		{abs.Join, row(8, 31, 1), just(8, 2), []int{0, 1, 2, 31, 32}},
		{abs.Join, fours, just(8, 40), []int{0, 4, 8, 12, 16, 20, 24, 28, 32}},
		{abs.Meet, row(8, 2, 9), row(8, 7, 200), []int{7, 8, 9}},
		{abs.Meet, fours, row(8, 9, 99), []int{12, 16, 20, 24, 28, 32}},
		{abs.Meet, row(8, 9, 50), row(8, 33, 8), nil},
		{abs.Meet, row(8, 30, 50), row(8, 33, 31), []int{30, 31}},
		{abs.Meet, row(8, 0, 32), row(8, 30, 5), []int{0, 1, 2, 3, 4, 5, 30, 31, 32}},
		{abs.Meet, row(8, 30, 5), row(8, 0, 32), []int{0, 1, 2, 3, 4, 5, 30, 31, 32}},
		{abs.Wide, just(8, 0), just(8, 4), []int{0, 4}},
		{abs.Wide, row(8, 3, 9), row(8, 5, 10), []int{3, 4, 5, 6, 7, 8, 9, 10, 11, 12, 13, 14, 15, 16}},
		{abs.Wide, row(8, 40, 50), just(8, 5), []int{5}},
		{abs.Wide, row(8, 5, 6), row(8, 40, 50), []int{5, 6}},
		{abs.Wide, fours, row(8, 36, 60), []int{0, 4, 8, 12, 16, 20, 24, 28, 32}},
	} {
		x, e := c.two(api.KPtr, to(2, c.a), to(2, c.b))
		if got := offsets(x, 2); e != api.OK || !slices.Equal(got, c.want) {
			t.Errorf("%d: %+v, %d: %v; want %v", i, x, e, got, c.want)
		}
	}
}

// P15.2: blocks come and go, each by itself.
func TestBlocks(t *testing.T) {
	base, just, row := samples.Base, samples.Just, samples.Row
	null := base(0, just(8, 0))
	a := samples.PointerSet(null, base(1, just(8, 4)), base(3, row(8, 0, 8)))
	b := samples.PointerSet(base(1, just(8, 8)), base(3, row(8, 8, 12)), base(6, just(8, 32)))
	for i, c := range []struct {
		two  func(int, api.Abs, api.Abs) (api.Abs, api.Errno)
		a, b api.Abs
		want []int // how many offsets of block 0, 1 ..
	}{
		{abs.Join, a, b, []int{1, 2, 0, 13, 0, 0, 1}},
		{abs.Join, b, a, []int{1, 2, 0, 13, 0, 0, 1}},
		{abs.Meet, a, b, []int{0, 0, 0, 1, 0, 0, 0}},
		{abs.Meet, b, a, []int{0, 0, 0, 1, 0, 0, 0}},
		{abs.Meet, a, a, []int{1, 1, 0, 9, 0, 0, 0}},
		{abs.Wide, a, b, []int{1, 2, 0, 17, 0, 0, 1}},
		{abs.Wide, a, samples.PointerSet(base(3, just(8, 9))), []int{1, 1, 0, 17, 0, 0, 0}},
		{abs.Wide, samples.PointerSet(base(6, just(8, 32))), samples.PointerSet(null), []int{1, 0, 0, 0, 0, 0, 1}},
	} {
		x, e := c.two(api.KPtr, c.a, c.b)
		if e != api.OK || abs.Check(api.KPtr, x) != api.OK {
			t.Fatalf("%d: %+v, %d", i, x, e)
		}
		for block, many := range c.want {
			got := len(offsets(x, block))
			if block == 0 {
				got = len(x.Ptrs) - len(slices.DeleteFunc(slices.Clone(x.Ptrs), func(b api.Base) bool { return b.Block == 0 }))
			}
			if got != many {
				t.Errorf("%d: %+v: %d of block %d; want %d", i, x, got, block, many)
			}
		}
	}
}

// P15.2, Wide: a block to which nothing new comes stays as it stands, whatever comes to
// another one, and whatever lies beyond MaxSize.
func TestBlockStays(t *testing.T) {
	fresh := samples.Base(2, samples.Just(8, 1))
	for _, v := range []api.Val{samples.Row(8, 0, api.MaxSize), samples.Row(8, 0, 40), {Width: 8, High: 33, Free: 63}} {
		for _, off := range []api.Val{samples.Row(8, 30, 5), samples.Row(8, 3, 99), samples.Just(8, 7), samples.None(8), samples.Just(8, 99)} {
			x, e := abs.Wide(api.KPtr, to(1, v), samples.PointerSet(samples.Base(1, off), fresh))
			if want := samples.PointerSet(samples.Base(1, v), fresh); e != api.OK || !samples.AlikeAbs(x, want) {
				t.Errorf("%+v, %+v: %+v, %d", v, off, x, e)
			}
		}
	}
}

// R2: what is told is new memory, spare room too, also where it is what was handed in.
func TestNewMemory(t *testing.T) {
	strange := samples.Base(9, samples.Just(16, 9))
	spoil := func(x api.Abs) {
		full := x.Ptrs[:cap(x.Ptrs)]
		for i := range full {
			full[i] = strange
		}
	}
	for _, a := range samples.ManyAbses(numbers(9), api.KPtr, 60) {
		a.Ptrs = append(slices.Clone(a.Ptrs), strange)[:len(a.Ptrs)] // with spare room
		for _, b := range []api.Abs{a, {}, to(1, samples.Row(8, 0, 9)), to(6, samples.Row(8, 40, 5))} {
			kept, other := samples.CloneAbs(a), samples.CloneAbs(b)
			for i, two := range []func(int, api.Abs, api.Abs) (api.Abs, api.Errno){abs.Join, abs.Meet, abs.Wide} {
				x, _ := two(api.KPtr, a, b)
				want := samples.CloneAbs(x)
				y, _ := two(api.KPtr, a, b)
				spoil(y)
				if !samples.AlikeAbs(a, kept) || !samples.AlikeAbs(b, other) || !samples.AlikeAbs(x, want) || a.Ptrs[:len(a.Ptrs)+1][len(a.Ptrs)] != strange {
					t.Fatalf("%d of %+v, %+v shares: %+v, %+v, %+v", i, kept, other, a, b, x)
				}
				if z, _ := two(api.KPtr, a, b); !samples.AlikeAbs(z, want) {
					t.Fatalf("%d of %+v, %+v kept what it told: %+v", i, a, b, z)
				}
			}
		}
	}
	for _, tell := range []func() (api.Abs, api.Errno){
		func() (api.Abs, api.Errno) { return abs.One(api.KPtr, samples.Pointer(3, 4)) },
		func() (api.Abs, api.Errno) { return abs.All(api.KPtr, 6) },
	} {
		x, _ := tell()
		want := samples.CloneAbs(x)
		y, _ := tell()
		spoil(y)
		if z, _ := tell(); !samples.AlikeAbs(x, want) || !samples.AlikeAbs(z, want) {
			t.Errorf("told %+v, then %+v; want %+v", x, z, want)
		}
	}
}

// R1: the same, whoever calls at the same time.
func TestTogether(t *testing.T) {
	a, b := samples.Abses(api.KPtr)[30], samples.Abses(api.KPtr)[40]
	join, _ := abs.Join(api.KPtr, a, b)
	wide, _ := abs.Wide(api.KPtr, a, b)
	in, _ := abs.In(api.KPtr, a, b)
	samples.Together(func() {
		x, e := abs.Join(api.KPtr, a, b)
		y, f := abs.Wide(api.KPtr, a, b)
		is, g := abs.In(api.KPtr, a, b)
		if !samples.AlikeAbs(x, join) || !samples.AlikeAbs(y, wide) || is != in || e != api.OK || f != api.OK || g != api.OK {
			t.Errorf("told %+v, %+v, %v", x, y, is)
		}
	})
}
