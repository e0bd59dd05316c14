package filter_test

import (
	"math"
	"math/rand"
	"slices"
	"testing"

	"cellar/alu"
	"cellar/api"
	"cellar/filter"
	"cellar/samples"
	"cellar/val"
)

// The face: each line stops compiling if a signature changes.
var (
	_ func(int, int, api.Val, api.Val, bool) (api.Val, api.Val, api.Errno) = filter.Two
	_ func(api.Val, bool) (api.Val, api.Errno)                             = filter.Zero
	_ func(int, int, api.Val, api.Val) (api.Val, api.Errno)                = filter.Down
)

func questions() []int {
	return []int{api.EEq, api.ELess}
}

// numbers tells a new number each time, the same ones for the same seed.
func numbers(seed int64) func() int {
	r := rand.New(rand.NewSource(seed))
	return func() int { return int(r.Uint64()) }
}

// isLeft is whether x is a set that may be, with all of the numbers, and with none
// that a has not.
func isLeft(x api.Val, a api.Val, numbers []int) bool {
	if val.Check(x) != api.OK || x.Width != a.Width {
		return false
	}
	for _, n := range numbers {
		if !samples.Has(x, n) {
			return false
		}
	}
	in, e := val.In(x, a)
	return in && e == api.OK
}

// isEmpty is whether x is a set of a width without members.
func isEmpty(x api.Val, w int) bool {
	empty, e := val.Empty(x)
	return empty && e == api.OK && x.Width == w
}

// isJust is whether x is a set of a width of n alone.
func isJust(x api.Val, w int, n int) bool {
	is, m, e := val.Single(x)
	return is && m == n && e == api.OK && x.Width == w
}

// says is whether alu's answer is yes.
func says(t *testing.T, op int, kind int, u int, v int) bool {
	t.Helper()
	n, bad, e := alu.Two(op, kind, u, v)
	if bad != api.BadNone || e != api.OK {
		t.Fatalf("alu.Two(%d, %d, %d, %d): %d, %d", op, kind, u, v, bad, e)
	}
	return n == 1
}

// askedOnce is what alu tells of all pairs of numbers of 8 bits.
func askedOnce(t *testing.T, op int, kind int) func(u int, v int) bool {
	t.Helper()
	l := make([]bool, 1<<16)
	for i := range l {
		l[i] = says(t, op, kind, i>>8, i&255)
	}
	return func(u int, v int) bool { return l[u<<8|v] }
}

// kept are those of la that have a partner in lb for which it holds.
func kept(la []int, lb []int, holds func(u int, v int) bool) []int {
	var l []int
	for _, u := range la {
		if slices.ContainsFunc(lb, func(v int) bool { return holds(u, v) }) {
			l = append(l, u)
		}
	}
	return l
}

// twoHolds checks Two against members of a, of b, of which is tells alu's answer;
// whole: against all of them. Then nothing may be left where alu never says so.
func twoHolds(t *testing.T, op int, kind int, a api.Val, b api.Val, la []int, lb []int, is func(u int, v int) bool, whole bool) {
	t.Helper()
	for _, yes := range []bool{true, false} {
		lx := kept(la, lb, func(u int, v int) bool { return is(u, v) == yes })
		ly := kept(lb, la, func(v int, u int) bool { return is(u, v) == yes })
		x, y, e := filter.Two(op, kind, a, b, yes)
		if e != api.OK || !isLeft(x, a, lx) || !isLeft(y, b, ly) {
			t.Fatalf("Two(%d, %d, %+v, %+v, %v) = %+v, %+v, %d", op, kind, a, b, yes, x, y, e)
		}
		if whole && len(lx) == 0 && (!isEmpty(x, a.Width) || !isEmpty(y, b.Width)) {
			t.Fatalf("Two(%d, %d, %+v, %+v, %v) = %+v, %+v: never so", op, kind, a, b, yes, x, y)
		}
	}
}

// P5.1 of 8 bits, held against all pairs of members.
func TestTwoAllMembers(t *testing.T) {
	l := samples.Many(numbers(1), 8, 20)
	members := make([][]int, len(l))
	for i, v := range l {
		members[i] = samples.Members(v)
	}
	for _, kind := range []int{api.KU8, api.KI8} {
		for _, op := range questions() {
			is := askedOnce(t, op, kind)
			for i, a := range l {
				for k, b := range l {
					twoHolds(t, op, kind, a, b, members[i], members[k], is, true)
				}
			}
		}
	}
}

// P5.1 of 16 and 32 bits, held against members here and there.
func TestTwoSomeMembers(t *testing.T) {
	number := numbers(2)
	for _, kind := range samples.Kinds()[2:] {
		l := samples.Many(number, samples.Width(kind), 30)
		members := make([][]int, len(l))
		for i, v := range l {
			members[i] = samples.Sample(number, v)
		}
		for i, a := range l {
			for k := i % 3; k < len(l); k += 3 {
				for _, op := range questions() {
					is := func(u int, v int) bool { return says(t, op, kind, u, v) }
					twoHolds(t, op, kind, a, l[k], members[i], members[k], is, false)
				}
			}
		}
	}
}

// edges are numbers of a width at which something turns.
func edges(w int) []int {
	top, half := 1<<w-1, 1<<(w-1)
	return []int{0, 1, 2, half - 1, half, half + 1, top - 1, top}
}

// P5.1: of two single ones just both, or nothing, in whatever form they come.
func TestTwoSingle(t *testing.T) {
	for _, kind := range samples.Kinds() {
		w := samples.Width(kind)
		for _, u := range edges(w) {
			for _, v := range edges(w) {
				for i, a := range samples.Singles(w, u) {
					b := samples.Singles(w, v)[(i+u+v)%4]
					for _, op := range questions() {
						is := says(t, op, kind, u, v)
						x, y, e := filter.Two(op, kind, a, b, is)
						if e != api.OK || !isJust(x, w, u) || !isJust(y, w, v) {
							t.Errorf("Two(%d, %d, %+v, %+v, %v) = %+v, %+v, %d", op, kind, a, b, is, x, y, e)
						}
						x, y, e = filter.Two(op, kind, a, b, !is)
						if e != api.OK || !isEmpty(x, w) || !isEmpty(y, w) {
							t.Errorf("Two(%d, %d, %+v, %+v, %v) = %+v, %+v, %d", op, kind, a, b, !is, x, y, e)
						}
					}
				}
			}
		}
	}
}

// P5.1, the edges written out.
func TestTwoWrittenOut(t *testing.T) {
	row, just := samples.Row, samples.Just
	for i, c := range []struct {
		op, kind int
		a, b     api.Val
		yes      bool
		x, y     []int
	}{
		{api.EEq, api.KU8, row(8, 3, 6), row(8, 5, 9), true, []int{5, 6}, []int{5, 6}},
		{api.EEq, api.KU8, row(8, 254, 1), row(8, 0, 9), true, []int{0, 1}, []int{0, 1}},
		{api.EEq, api.KI8, row(8, 3, 6), just(8, 7), true, nil, nil},
		{api.EEq, api.KU8, row(8, 3, 6), just(8, 3), false, []int{4, 5, 6}, []int{3}},
		{api.EEq, api.KU8, just(8, 6), row(8, 3, 6), false, []int{6}, []int{3, 4, 5}},
		{api.EEq, api.KU8, row(8, 3, 6), just(8, 5), false, []int{3, 4, 5, 6}, []int{5}},
		{api.EEq, api.KI8, row(8, 255, 2), just(8, 255), false, []int{0, 1, 2}, []int{255}},
		{api.EEq, api.KU8, row(8, 3, 5), row(8, 3, 5), false, []int{3, 4, 5}, []int{3, 4, 5}},
		{api.EEq, api.KU8, row(8, 3, 5), just(8, 9), false, []int{3, 4, 5}, []int{9}},
		{api.ELess, api.KU8, row(8, 3, 6), row(8, 2, 5), true, []int{3, 4}, []int{4, 5}},
		{api.ELess, api.KU8, row(8, 3, 6), row(8, 2, 5), false, []int{3, 4, 5, 6}, []int{2, 3, 4, 5}},
		{api.ELess, api.KU8, row(8, 3, 6), row(8, 5, 9), false, []int{5, 6}, []int{5, 6}},
		{api.ELess, api.KU8, row(8, 0, 255), just(8, 0), true, nil, nil},
		{api.ELess, api.KU8, row(8, 0, 2), just(8, 1), true, []int{0}, []int{1}},
		{api.ELess, api.KU8, row(8, 254, 1), just(8, 255), false, []int{255}, []int{255}},
		{api.ELess, api.KU8, just(8, 254), row(8, 250, 1), true, []int{254}, []int{255}},
		{api.ELess, api.KI8, row(8, 254, 2), just(8, 0), true, []int{254, 255}, []int{0}},
		{api.ELess, api.KI8, row(8, 254, 2), just(8, 0), false, []int{0, 1, 2}, []int{0}},
		{api.ELess, api.KI8, row(8, 126, 129), row(8, 127, 128), true, []int{126, 127, 128, 129}, []int{127}}, // 127 lies between
		{api.ELess, api.KI8, row(8, 0, 255), just(8, 128), true, nil, nil},
		{api.ELess, api.KI8, just(8, 127), row(8, 0, 255), true, nil, nil},
		{api.ELess, api.KI8, row(8, 125, 130), just(8, 126), false, []int{126, 127}, []int{126}},
		{api.ELess, api.KU8, row(8, 5, 4), samples.None(8), false, nil, nil},
	} {
		x, y, e := filter.Two(c.op, c.kind, c.a, c.b, c.yes)
		if e != api.OK || !slices.Equal(samples.Members(x), c.x) || !slices.Equal(samples.Members(y), c.y) {
			t.Errorf("%d: %v, %v, %d; want %v, %v", i, samples.Members(x), samples.Members(y), e, c.x, c.y)
		}
	}
}

// P5.1, what follows: rows of 32 bits, the signed ones over the end.
func TestTwoWideRows(t *testing.T) {
	row, top, half := samples.Row, 1<<32-1, 1<<31
	for i, c := range []struct {
		op, kind   int
		a, b, x, y api.Val
		yes        bool
	}{
		{api.ELess, api.KI32, row(32, 0, top), samples.Just(32, 10), row(32, half, 9), samples.Just(32, 10), true},
		{api.ELess, api.KI32, row(32, 0, top), samples.Just(32, 10), row(32, 10, half-1), samples.Just(32, 10), false},
		{api.ELess, api.KU32, row(32, 0, top), samples.Just(32, 10), row(32, 0, 9), samples.Just(32, 10), true},
		{api.ELess, api.KU32, samples.Just(32, 10), row(32, 0, top), samples.Just(32, 10), row(32, 11, top), true},
		{api.ELess, api.KI32, row(32, top-4, 4), row(32, top-9, top-2), row(32, top-4, top-3), row(32, top-3, top-2), true},
		{api.EEq, api.KU32, row(32, 0, top), row(32, top-9, 4), row(32, top-9, 4), row(32, top-9, 4), true},
		{api.EEq, api.KU32, row(32, 0, top), samples.Just(32, 7), row(32, 8, 6), samples.Just(32, 7), false},
	} {
		x, y, e := filter.Two(c.op, c.kind, c.a, c.b, c.yes)
		inX, _ := val.In(x, c.x)
		inY, _ := val.In(y, c.y)
		if e != api.OK || !inX || !inY || !isLeft(x, c.a, []int{c.x.Low, c.x.High}) || !isLeft(y, c.b, []int{c.y.Low, c.y.High}) {
			t.Errorf("%d: %+v, %+v, %d; want %+v, %+v", i, x, y, e, c.x, c.y)
		}
	}
}

// others are a's members but 0.
func others(l []int) []int {
	return slices.DeleteFunc(slices.Clone(l), func(n int) bool { return n == 0 })
}

// P5.1 of Zero, held against all members of sets of 8 and 16 bits.
func TestZeroAllMembers(t *testing.T) {
	for _, w := range []int{8, 16} {
		for _, a := range samples.Many(numbers(3), w, 150) {
			l := samples.Members(a)
			x, e := filter.Zero(a, true)
			if e != api.OK || (samples.Has(a, 0) && !isJust(x, w, 0)) || (!samples.Has(a, 0) && !isEmpty(x, w)) {
				t.Errorf("Zero(%+v, true) = %+v, %d", a, x, e)
			}
			x, e = filter.Zero(a, false)
			if e != api.OK || !isLeft(x, a, others(l)) || len(others(l)) == 0 && !isEmpty(x, w) {
				t.Errorf("Zero(%+v, false) = %+v, %d", a, x, e)
			}
		}
	}
}

// P5.1 of Zero, the edges: 0 alone, first, last, over the end, not there.
func TestZeroEdges(t *testing.T) {
	for _, w := range []int{8, 16, 32} {
		top := 1<<w - 1
		for i, c := range []struct{ a, yes, no api.Val }{
			{samples.None(w), samples.None(w), samples.None(w)},
			{samples.Just(w, 0), samples.Just(w, 0), samples.None(w)},
			{samples.Just(w, 5), samples.None(w), samples.Just(w, 5)},
			{samples.Row(w, 0, 1), samples.Just(w, 0), samples.Just(w, 1)},
			{samples.Row(w, top, 0), samples.Just(w, 0), samples.Just(w, top)},
			{samples.Row(w, 0, 9), samples.Just(w, 0), samples.Row(w, 1, 9)},
			{samples.Row(w, 0, top), samples.Just(w, 0), samples.Row(w, 1, top)},
			{samples.Row(w, 1, top), samples.None(w), samples.Row(w, 1, top)},
			{api.Val{Width: w, High: top, Free: 4}, samples.Just(w, 0), samples.Just(w, 4)},
			{api.Val{Width: w, Low: 1, High: top}, samples.None(w), samples.None(w)},
		} {
			yes, e := filter.Zero(c.a, true)
			no, f := filter.Zero(c.a, false)
			if e != api.OK || f != api.OK || !alike(yes, c.yes) || !alike(no, c.no) {
				t.Errorf("%d, %d: %+v, %d; %+v, %d", w, i, yes, e, no, f)
			}
		}
		for _, a := range samples.Singles(w, 0) {
			if x, e := filter.Zero(a, false); e != api.OK || !isEmpty(x, w) {
				t.Errorf("Zero(%+v, false) = %+v, %d", a, x, e)
			}
		}
	}
}

// alike is whether two sets have the same members.
func alike(a api.Val, b api.Val) bool {
	in, e := val.In(a, b)
	ni, f := val.In(b, a)
	return in && ni && e == api.OK && f == api.OK
}

// downHolds checks Down against members of a.
func downHolds(t *testing.T, from int, to int, a api.Val, b api.Val, la []int) {
	t.Helper()
	var lx []int
	for _, u := range la {
		n, e := alu.Cast(from, to, u)
		if e != api.OK {
			t.Fatalf("alu.Cast(%d, %d, %d): %d", from, to, u, e)
		}
		if samples.Has(b, n) {
			lx = append(lx, u)
		}
	}
	x, e := filter.Down(from, to, a, b)
	if e != api.OK || !isLeft(x, a, lx) {
		t.Fatalf("Down(%d, %d, %+v, %+v) = %+v, %d; want %v", from, to, a, b, x, e, lx)
	}
}

// P5.2 of 8 bits to all kinds, held against all members.
func TestDownAllMembers(t *testing.T) {
	number := numbers(4)
	l := samples.Many(number, 8, 60)
	for _, to := range samples.Kinds() {
		second := samples.Many(number, samples.Width(to), 30)
		for _, a := range l {
			members := samples.Members(a)
			for _, from := range []int{api.KU8, api.KI8} {
				for _, b := range second {
					downHolds(t, from, to, a, b, members)
				}
				// Sets that are what a's members are cast to, but for a few.
				for range 4 {
					low, _ := alu.Cast(from, to, number()&255)
					high, _ := alu.Cast(from, to, number()&255)
					downHolds(t, from, to, a, samples.Row(samples.Width(to), low, high), members)
				}
			}
		}
	}
}

// P5.2 of 16 bits to all kinds, held against all members of some pairs.
func TestDownMoreMembers(t *testing.T) {
	number := numbers(5)
	for i, a := range samples.Many(number, 16, 60) {
		members := samples.Members(a)
		for _, to := range samples.Kinds() {
			second := samples.Many(number, samples.Width(to), 0)
			for k := i % 8; k < len(second); k += 8 {
				downHolds(t, api.KU16+i%2, to, a, second[k], members)
			}
		}
	}
}

// P5.2: rows of 16 bits in which the lowest 8 go round nearly once, once, or more.
func TestDownRound(t *testing.T) {
	for _, low := range []int{0, 1, 250, 256, 32767, 65280, 65400, 65535} {
		for more := 253; more <= 259; more++ {
			a := samples.Row(16, low, (low+more)&65535)
			members := samples.Members(a)
			for _, from := range []int{low & 255, (low + more) & 255, 0, 7, 255} {
				for _, to := range []int{from, (from + 3) & 255, (from - 1) & 255} {
					downHolds(t, api.KU16, api.KI8, a, samples.Row(8, from, to), members)
				}
			}
		}
	}
}

// P5.2 of 32 bits to all kinds, held against members here and there.
func TestDownSomeMembers(t *testing.T) {
	number := numbers(6)
	for _, a := range samples.Many(number, 32, 100) {
		members := samples.Sample(number, a)
		for _, to := range samples.Kinds() {
			for _, b := range samples.Many(number, samples.Width(to), 20) {
				downHolds(t, api.KU32, to, a, b, members)
				downHolds(t, api.KI32, to, a, b, members)
			}
		}
	}
}

// P5.2: of a single one it, or nothing.
func TestDownSingle(t *testing.T) {
	for _, from := range samples.Kinds() {
		w := samples.Width(from)
		for _, u := range edges(w) {
			for _, a := range samples.Singles(w, u) {
				for _, to := range samples.Kinds() {
					n, _ := alu.Cast(from, to, u)
					for _, b := range samples.Sets(samples.Width(to)) {
						x, e := filter.Down(from, to, a, b)
						if has := samples.Has(b, n); e != api.OK || has && !isJust(x, w, u) || !has && !isEmpty(x, w) {
							t.Errorf("Down(%d, %d, %+v, %+v) = %+v, %d", from, to, a, b, x, e)
						}
					}
				}
			}
		}
	}
}

// P5.2, what is left of rows and patterns, where a set can say it.
func TestDownTight(t *testing.T) {
	row, just := samples.Row, samples.Just
	for i, c := range []struct {
		from, to   int
		a, b, want api.Val
	}{
		{api.KU8, api.KI8, row(8, 0, 255), row(8, 250, 5), row(8, 250, 5)},
		{api.KU8, api.KU32, row(8, 0, 255), row(32, 10, 20), row(8, 10, 20)},
		{api.KI8, api.KI32, row(8, 0, 255), row(32, 1<<32-6, 5), row(8, 250, 5)},
		{api.KI8, api.KU16, row(8, 0, 255), row(16, 0, 1000), row(8, 0, 127)},
		{api.KI8, api.KU16, row(8, 0, 255), row(16, 1000, 65535), row(8, 128, 255)},
		{api.KU8, api.KU16, row(8, 0, 255), row(16, 200, 1000), row(8, 200, 255)},
		{api.KU8, api.KU16, row(8, 0, 255), row(16, 256, 65535), samples.None(8)},
		{api.KU16, api.KU8, row(16, 0, 255), row(8, 10, 20), row(16, 10, 20)},
		{api.KU16, api.KU8, row(16, 512, 767), row(8, 250, 5), api.Val{Width: 16, Low: 762, High: 517, Free: 255, Bits: 512}},
		{api.KU16, api.KU8, row(16, 250, 260), row(8, 250, 2), row(16, 250, 258)},
		{api.KI16, api.KU8, row(16, 65530, 9), row(8, 252, 3), row(16, 65532, 3)},
		{api.KU32, api.KU8, row(32, 0, 1<<32-1), just(8, 7), api.Val{Width: 32, High: 1<<32 - 1, Free: 1<<32 - 256, Bits: 7}},
		{api.KU32, api.KI16, row(32, 0, 1<<32-1), samples.None(16), samples.None(32)},
		{api.KI32, api.KI16, row(32, 1000, 2000), row(16, 1500, 9000), row(32, 1500, 2000)},
		{api.KU16, api.KU8, api.Val{Width: 16, High: 65535, Free: 255, Bits: 256}, row(8, 3, 9), row(16, 259, 265)},
	} {
		x, e := filter.Down(c.from, c.to, c.a, c.b)
		if in, _ := val.In(x, c.want); e != api.OK || !in {
			t.Errorf("%d: %+v, %d; want %+v", i, x, e, c.want)
		}
	}
}

// P5.1, P5.2: of an empty set nothing is left, of any other one with it neither.
func TestEmpty(t *testing.T) {
	for _, kind := range samples.Kinds() {
		w := samples.Width(kind)
		for _, none := range samples.Empties(w) {
			for _, other := range samples.Sets(w) {
				for _, yes := range []bool{true, false} {
					for _, op := range questions() {
						x, y, e := filter.Two(op, kind, none, other, yes)
						if e != api.OK || !isEmpty(x, w) || !isEmpty(y, w) {
							t.Errorf("Two(%d, %d, %+v, %+v, %v) = %+v, %+v, %d", op, kind, none, other, yes, x, y, e)
						}
						x, y, e = filter.Two(op, kind, other, none, yes)
						if e != api.OK || !isEmpty(x, w) || !isEmpty(y, w) {
							t.Errorf("Two(%d, %d, %+v, %+v, %v) = %+v, %+v, %d", op, kind, other, none, yes, x, y, e)
						}
					}
				}
				for _, to := range samples.Kinds() {
					v := samples.Row(samples.Width(to), 0, 1<<samples.Width(to)-1)
					if x, e := filter.Down(kind, to, none, v); e != api.OK || !isEmpty(x, w) {
						t.Errorf("Down(%d, %d, %+v, %+v) = %+v, %d", kind, to, none, v, x, e)
					}
				}
			}
		}
	}
}

// refused is whether a call told ErrForm and nothing else.
func refused(x api.Val, y api.Val, e api.Errno) bool {
	return x == api.Val{} && y == api.Val{} && e == api.ErrForm
}

// P5.1, P5.2: sets that may not be, or are of another width.
func TestStrangeSets(t *testing.T) {
	for _, kind := range samples.Kinds() {
		w := samples.Width(kind)
		for _, wrong := range samples.Strange(w) {
			for _, other := range []api.Val{samples.None(w), samples.Just(w, 0), samples.Row(w, 0, 1<<w-1), wrong} {
				for _, op := range questions() {
					if x, y, e := filter.Two(op, kind, wrong, other, true); !refused(x, y, e) {
						t.Errorf("Two(%d, %d, %+v, %+v) = %+v, %+v, %d", op, kind, wrong, other, x, y, e)
					}
					if x, y, e := filter.Two(op, kind, other, wrong, false); !refused(x, y, e) {
						t.Errorf("Two(%d, %d, %+v, %+v) = %+v, %+v, %d", op, kind, other, wrong, x, y, e)
					}
				}
				for _, from := range samples.Kinds() {
					a := samples.Row(samples.Width(from), 0, 3)
					if x, e := filter.Down(from, kind, a, wrong); !refused(x, api.Val{}, e) {
						t.Errorf("Down(%d, %d, %+v, %+v) = %+v, %d", from, kind, a, wrong, x, e)
					}
					if x, e := filter.Down(kind, from, wrong, a); !refused(x, api.Val{}, e) {
						t.Errorf("Down(%d, %d, %+v, %+v) = %+v, %d", kind, from, wrong, a, x, e)
					}
				}
			}
		}
	}
}

// P5.1 of Zero: sets that may not be; those of other widths may.
func TestZeroStrange(t *testing.T) {
	for _, w := range []int{8, 16, 32} {
		for _, a := range samples.Strange(w) {
			if val.Check(a) == api.OK {
				continue
			}
			for _, yes := range []bool{true, false} {
				if x, e := filter.Zero(a, yes); !refused(x, api.Val{}, e) {
					t.Errorf("Zero(%+v, %v) = %+v, %d", a, yes, x, e)
				}
			}
		}
	}
}

// P5.1: no question.
func TestNoQuestions(t *testing.T) {
	for op := -1; op <= api.ESame+1; op++ {
		if op == api.EEq || op == api.ELess {
			continue
		}
		for _, kind := range samples.Kinds() {
			w := samples.Width(kind)
			for _, v := range []api.Val{samples.None(w), samples.Just(w, 1), samples.Row(w, 0, 1<<w-1)} {
				if x, y, e := filter.Two(op, kind, v, v, true); !refused(x, y, e) {
					t.Errorf("Two(%d, %d, %+v) = %+v, %+v, %d", op, kind, v, x, y, e)
				}
			}
		}
	}
	for _, op := range []int{math.MinInt, math.MaxInt} {
		if x, y, e := filter.Two(op, api.KU8, samples.Just(8, 1), samples.Just(8, 1), true); !refused(x, y, e) {
			t.Errorf("Two(%d) = %+v, %+v, %d", op, x, y, e)
		}
	}
}

// P5.1, P5.2: no kind of numbers.
func TestNoKinds(t *testing.T) {
	for _, kind := range samples.NotKinds() {
		for _, v := range []api.Val{{}, samples.Just(8, 1), samples.None(16), samples.Row(32, 0, 5)} {
			for _, op := range questions() {
				if x, y, e := filter.Two(op, kind, v, v, true); !refused(x, y, e) {
					t.Errorf("Two(%d, %d, %+v) = %+v, %+v, %d", op, kind, v, x, y, e)
				}
			}
			if x, e := filter.Down(kind, api.KU8, v, samples.Just(8, 1)); !refused(x, api.Val{}, e) {
				t.Errorf("Down(%d, KU8, %+v) = %+v, %d", kind, v, x, e)
			}
			if x, e := filter.Down(api.KU8, kind, samples.Just(8, 1), v); !refused(x, api.Val{}, e) {
				t.Errorf("Down(KU8, %d, %+v) = %+v, %d", kind, v, x, e)
			}
		}
	}
}

// P5.3: no more members are left than there were.
func TestNeverLarger(t *testing.T) {
	number := numbers(7)
	for range 3000 {
		a, b := samples.Some(number, 8), samples.Some(number, 8)
		most, also := len(samples.Members(a)), len(samples.Members(b))
		for _, yes := range []bool{true, false} {
			for _, op := range questions() {
				x, y, _ := filter.Two(op, api.KU8+number()&1, a, b, yes)
				if len(samples.Members(x)) > most || len(samples.Members(y)) > also {
					t.Errorf("Two(%d, %+v, %+v, %v) = %+v, %+v", op, a, b, yes, x, y)
				}
			}
			if x, _ := filter.Zero(a, yes); len(samples.Members(x)) > most {
				t.Errorf("Zero(%+v, %v) = %+v", a, yes, x)
			}
		}
		if x, _ := filter.Down(api.KU8+number()&1, api.KI8, a, b); len(samples.Members(x)) > most {
			t.Errorf("Down(%+v, %+v) = %+v", a, b, x)
		}
	}
}

// The chapter's example: EEq of a set and just 3, yes: 3 at most.
func TestExample(t *testing.T) {
	three, _ := val.One(8, 3)
	for _, a := range samples.Many(numbers(8), 8, 200) {
		for _, kind := range []int{api.KU8, api.KI8} {
			x, y, e := filter.Two(api.EEq, kind, a, three, true)
			if in, _ := val.In(x, three); e != api.OK || !in || samples.Has(x, 3) != samples.Has(a, 3) || !alike(x, y) {
				t.Errorf("Two(EEq, %+v, 3) = %+v, %+v, %d", a, x, y, e)
			}
		}
	}
}

// R1: how goroutines take turns is not to be seen.
func TestTogether(t *testing.T) {
	a, b := samples.Row(8, 250, 20), samples.Row(8, 255, 9)
	x, y, _ := filter.Two(api.ELess, api.KI8, a, b, true)
	samples.Together(func() {
		v, u, e := filter.Two(api.ELess, api.KI8, a, b, true)
		if v != x || u != y || e != api.OK {
			t.Errorf("told %+v, %+v, %d", v, u, e)
		}
	})
}
