package grow_test

import (
	"math/bits"
	"math/rand"
	"slices"
	"testing"

	"cellar/api"
	"cellar/grow"
	"cellar/samples"
	"cellar/val"
)

// The face: each line stops compiling if a signature changes.
var (
	_ func(api.Val, api.Val) (api.Val, api.Errno) = grow.Wide
	_ func(...api.Val) (api.Val, api.Errno)       = grow.Row
	_ func(...api.Val) (int, api.Errno)           = grow.Steps
)

func widths() []int {
	return []int{8, 16, 32}
}

// numbers tells a new number each time, the same ones for the same seed.
func numbers(seed int64) func() int {
	r := rand.New(rand.NewSource(seed))
	return func() int { return int(r.Uint64()) }
}

// wideHolds checks Wide against members of a and of b.
func wideHolds(t *testing.T, a api.Val, b api.Val, la []int, lb []int) {
	t.Helper()
	v, e := grow.Wide(a, b)
	if e != api.OK || val.Check(v) != api.OK || v.Width != a.Width {
		t.Fatalf("Wide(%+v, %+v) = %+v, %d", a, b, v, e)
	}
	for _, n := range slices.Concat(la, lb) {
		if !samples.Has(v, n) {
			t.Fatalf("Wide(%+v, %+v) = %+v: %d is gone", a, b, v, n)
		}
	}
	if in, _ := val.In(b, a); in && v != a {
		t.Fatalf("Wide(%+v, %+v) = %+v: nothing was new", a, b, v)
	}
}

// P6.1 of 8 bits, held against all members.
func TestWideAllMembers(t *testing.T) {
	l := samples.Many(numbers(1), 8, 250)
	l = append(l, samples.Empties(8)...)
	members := make([][]int, len(l))
	for i, v := range l {
		members[i] = samples.Members(v)
	}
	for i, a := range l {
		for k, b := range l {
			wideHolds(t, a, b, members[i], members[k])
		}
	}
}

// P6.1 of 16 and 32 bits, held against members here and there.
func TestWideSomeMembers(t *testing.T) {
	number := numbers(2)
	for _, w := range []int{16, 32} {
		l := samples.Many(number, w, 250)
		members := make([][]int, len(l))
		for i, v := range l {
			members[i] = samples.Sample(number, v)
		}
		for i, a := range l {
			for k, b := range l {
				wideHolds(t, a, b, members[i], members[k])
			}
		}
	}
}

// isItself checks that Wide tells a as it stands.
func isItself(t *testing.T, a api.Val, b api.Val) {
	t.Helper()
	if v, e := grow.Wide(a, b); e != api.OK || v != a {
		t.Errorf("Wide(%+v, %+v) = %+v, %d", a, b, v, e)
	}
}

// P6.1: a itself, in whatever form it comes, if nothing is new; the chapter's example.
func TestWideItself(t *testing.T) {
	for _, w := range widths() {
		all := samples.Row(w, 0, 1<<w-1)
		l := append(samples.Many(numbers(3), w, 100), samples.Empties(w)...)
		for _, a := range append(l, samples.Singles(w, 7)...) {
			isItself(t, a, a)
			isItself(t, all, a)
			for _, b := range samples.Empties(w) {
				isItself(t, a, b)
			}
			for _, n := range samples.Sample(numbers(4), a) {
				for _, b := range samples.Singles(w, n) {
					isItself(t, a, b)
				}
			}
		}
	}
}

// P6.1 and P6.2, what has no member: then comes what the other one has.
func TestWideOfNothing(t *testing.T) {
	for _, w := range widths() {
		for _, a := range samples.Empties(w) {
			for _, b := range samples.Singles(w, 200) {
				v, e := grow.Wide(a, b)
				if is, n, _ := val.Single(v); e != api.OK || !is || n != 200 {
					t.Errorf("Wide(%+v, %+v) = %+v, %d", a, b, v, e)
				}
				if n, e := grow.Steps(a, b, b, a); e != api.OK || n != 1 {
					t.Errorf("Steps(%+v, %+v ..) = %d, %d", a, b, n, e)
				}
			}
		}
	}
}

// refused checks that all of them are refused.
func refused(t *testing.T, l ...api.Val) {
	t.Helper()
	if len(l) == 2 {
		if v, e := grow.Wide(l[0], l[1]); e != api.ErrForm || v != (api.Val{}) {
			t.Errorf("Wide(%+v) = %+v, %d", l, v, e)
		}
	}
	if v, e := grow.Row(l...); e != api.ErrForm || v != (api.Val{}) {
		t.Errorf("Row(%+v) = %+v, %d", l, v, e)
	}
	if n, e := grow.Steps(l...); e != api.ErrForm || n != 0 {
		t.Errorf("Steps(%+v) = %d, %d", l, n, e)
	}
}

// P6.1 and P6.2, what may not be: wrong sets and unlike widths, at each place, and no
// set at all.
func TestRefused(t *testing.T) {
	refused(t)
	for _, w := range widths() {
		all, one := samples.Row(w, 0, 1<<w-1), samples.Just(w, 1)
		for _, s := range samples.Strange(w) {
			for _, good := range []api.Val{all, one, samples.None(w), samples.Row(w, 6, 4)} {
				refused(t, good, s)
				refused(t, s, good)
				refused(t, good, good, s)
				refused(t, good, s, good)
				refused(t, one, all, all, all, s)
			}
		}
		for _, s := range samples.Strange(w)[:8] {
			refused(t, s)
			refused(t, s, s)
		}
		for _, other := range widths() {
			if other != w {
				refused(t, one, samples.Just(other, 1))
				refused(t, samples.None(w), samples.None(other))
				refused(t, one, all, samples.Row(other, 0, 1<<other-1))
			}
		}
	}
}

// follow is chapter 6's words on Row and Steps.
func follow(l []api.Val) (api.Val, int) {
	now, steps := l[0], 0
	for _, v := range l[1:] {
		next, _ := grow.Wide(now, v)
		if next != now {
			steps++
		}
		now = next
	}
	return now, steps
}

// rowHolds checks Row, Steps, and P6.3, and tells how many steps there were.
func rowHolds(t *testing.T, l []api.Val) int {
	t.Helper()
	before := slices.Clone(l)
	want, steps := follow(l)
	v, e := grow.Row(l...)
	n, f := grow.Steps(l...)
	if e != api.OK || f != api.OK || v != want || n != steps {
		t.Fatalf("Row(%+v) = %+v, %d; Steps: %d, %d; want %+v, %d", l, v, e, n, f, want, steps)
	}
	if n > api.MaxGrow {
		t.Fatalf("Steps(%+v) = %d", l, n)
	}
	if !slices.Equal(l, before) {
		t.Fatalf("Row(%+v): was %+v", l, before)
	}
	return n
}

// P6.2: a row of one set is that set, in whatever form.
func TestRowOfOne(t *testing.T) {
	for _, w := range widths() {
		for _, v := range append(samples.Many(numbers(5), w, 100), samples.Empties(w)...) {
			if rowHolds(t, []api.Val{v}); t.Failed() {
				return
			}
			if told, _ := grow.Row(v); told != v {
				t.Errorf("Row(%+v) = %+v", v, told)
			}
		}
	}
}

// P6.2 and P6.3: rows of whatever sets.
func TestRows(t *testing.T) {
	number := numbers(6)
	for _, w := range widths() {
		for range 1500 {
			var l []api.Val
			for range 1 + uint(number())%40 {
				l = append(l, samples.Some(number, w))
			}
			rowHolds(t, l)
		}
	}
}

// justs are single sets of numbers, cut to a width.
func justs(w int, l ...int) []api.Val {
	var sets []api.Val
	for _, n := range l {
		sets = append(sets, samples.Just(w, n&(1<<w-1)))
	}
	return sets
}

// P6.3: numbers that come one by one: rising, falling, in great steps, bit by bit,
// round and round, each kind from whatever set.
func TestOneByOne(t *testing.T) {
	for _, w := range widths() {
		var ways [7][]int
		for n := range 600 {
			ways[0] = append(ways[0], n)
			ways[1] = append(ways[1], -n)
			ways[2] = append(ways[2], n*(1<<w/512)+n&1)
			ways[3] = append(ways[3], int(bits.Reverse(uint(n))>>(64-w)))
			ways[4] = append(ways[4], (n&1*2-1)*n)
			ways[5] = append(ways[5], 1<<(w-1-n%w))
			ways[6] = append(ways[6], 1<<(n%w))
		}
		for _, way := range ways {
			l := justs(w, way...)
			for _, start := range append(samples.Many(numbers(7), w, 20), samples.Empties(w)...) {
				rowHolds(t, slices.Concat([]api.Val{start}, l))
			}
		}
	}
}

// near are numbers of a width at which something turns.
func near(w int) []int {
	half := 1 << (w - 1)
	l := []int{40, 41, 42, 44, 48, 56} // between two turns, of several places
	for _, turn := range []int{0, 9, 17, 33, half, -32} {
		l = append(l, turn-9, turn-4, turn-3, turn-2, turn-1, turn, turn+1)
	}
	return l
}

// furthest is the most steps that single numbers can make behind v.
func furthest(t *testing.T, v api.Val, l []api.Val, seen map[api.Val]int) int {
	if n, known := seen[v]; known {
		return n
	}
	seen[v] = api.MaxGrow + 1 // who comes round to v again never ends
	most := 0
	for _, n := range l {
		if next, _ := grow.Wide(v, n); next != v {
			most = max(most, 1+furthest(t, next, l, seen))
		}
	}
	if most > api.MaxGrow {
		t.Fatalf("%+v grows %d times", v, most)
	}
	seen[v] = most
	return most
}

// P6.3: whatever numbers are chosen, however cunningly.
func TestFurthest(t *testing.T) {
	for _, w := range widths() {
		seen := map[api.Val]int{}
		l := justs(w, near(w)...)
		for _, start := range []api.Val{samples.Just(w, 0), samples.Just(w, 12), samples.Just(w, 1<<(w-1)), samples.Row(w, 7, 11), samples.Row(w, 250, 3), {Width: w, High: 1<<w - 1, Free: 96, Bits: 3}} {
			furthest(t, start, l, seen)
		}
		for _, n := range []int{10, 40} {
			if n := furthest(t, samples.Just(w, n), l, seen); n > api.MaxGrow-1 {
				t.Errorf("a single one of %d bits grows %d times", w, n)
			}
		}
	}
}

// P6.3: a long row, each set chosen such that it grows by as little as it may.
func TestLongRow(t *testing.T) {
	number := numbers(8)
	for _, w := range widths() {
		for range 60 {
			l := []api.Val{samples.None(w)}
			now := l[0]
			for range api.MaxGrow + 3 {
				least, size := now, 0
				for range 60 {
					v := samples.Some(number, w)
					next, _ := grow.Wide(now, v)
					if n := (next.High - next.Low) & (1<<w - 1); next != now && (least == now || n < size) {
						least, size = v, n
					}
				}
				l = append(l, least)
				now, _ = grow.Wide(now, least)
			}
			rowHolds(t, l)
		}
	}
}

// grown are the members of what a row tells.
func grown(t *testing.T, l []api.Val) []int {
	t.Helper()
	v, e := grow.Row(l...)
	if e != api.OK {
		t.Fatalf("Row(%+v): %d", l, e)
	}
	return samples.Members(v)
}

// from are the numbers of 16 bits from low on to high, by steps.
func from(low int, high int, by int) []int {
	var l []int
	for n := low; n <= high; n += by {
		l = append(l, n)
	}
	return l
}

// P6.1, what is told of short loops: not more than the next mark, and an end that
// nothing goes over stays, as do the lowest bits that nothing turns.
func TestLittleAdded(t *testing.T) {
	row := samples.Row
	for i, c := range []struct {
		row  []api.Val
		want []int
	}{
		{justs(16, 0, 1), []int{0, 1}},
		{justs(16, 5, 1), []int{1, 5}},
		{justs(16, 6, 1), []int{1, 2, 3, 4, 5, 6}},
		{justs(16, 1, 2, 3), from(1, 8, 1)},
		{justs(16, 1, 2, 3, 9), from(1, 16, 1)},
		{justs(16, 1, 2, 3, 20), from(1, 32, 1)},
		{justs(16, 1, 2, 3, 33), from(1, 1<<15-1, 1)},
		{justs(16, 1, 2, 3, 1<<15), append(from(0, 8, 1), from(1<<15, 1<<16-1, 1)...)},
		{justs(16, 1, 2, 20000, 1<<15), from(1, 1<<16-33, 1)},
		{justs(16, 10, 9, 8), from(0, 10, 1)},
		{justs(16, 10, 9, 8, 12), from(0, 16, 1)},
		{justs(16, 0, 4), from(0, 4, 4)},
		{justs(16, 0, 4, 8), from(0, 8, 4)},
		{justs(16, 0, 4, 8, 12), from(0, 16, 4)},
		{justs(16, 0, 8, 16), from(0, 16, 8)},
		{justs(16, 3, 11, 19), from(3, 32, 8)},
		{justs(16, 2, 6, 10, 12), from(2, 16, 2)},
		{justs(16, 2, 6, 10, 13), from(2, 16, 1)},
		{justs(16, 32, 16, 17), from(16, 32, 1)},
		{justs(16, 0, 1, 2, -1), append(from(0, 8, 1), from(1<<16-32, 1<<16-1, 1)...)},
		{justs(16, 0, 1, 20, 7), from(0, 32, 1)},
		{justs(16, 0, 1, 20, -9), append(from(0, 32, 1), from(1<<16-32, 1<<16-1, 1)...)},
		{[]api.Val{row(16, 0, 9), row(16, 3, 12)}, from(0, 16, 1)},
		{[]api.Val{{Width: 16, High: 3, Free: 3}, samples.Just(16, 5)}, from(0, 5, 1)},
		{[]api.Val{{Width: 16, Low: 6, High: 1, Free: 7}, samples.Just(16, 2)}, from(0, 7, 1)},
		{[]api.Val{{Width: 16, Low: 6, High: 1, Free: 7}, samples.Just(16, 9)}, from(0, 9, 1)},
		{[]api.Val{samples.Just(16, 2), {Width: 16, Low: 6, High: 1, Free: 7}}, from(0, 7, 1)},
		{[]api.Val{row(16, 3, 3), samples.Just(16, 5)}, from(3, 5, 2)},
		{[]api.Val{samples.Just(16, 3), row(16, 65530, 1)}, append(from(0, 3, 1), from(65530, 65535, 1)...)},
		{[]api.Val{row(16, 2, 4), samples.Just(16, 6), samples.Just(16, 3)}, from(2, 8, 1)},
		{[]api.Val{row(16, 300, 400), row(16, 250, 1000)}, from(33, 1<<15-1, 1)},
		{[]api.Val{row(16, 1<<15, 0), row(16, 1, 3)}, append(from(0, 8, 1), from(1<<15, 1<<16-1, 1)...)},
	} {
		rowHolds(t, c.row)
		if got := grown(t, c.row); !slices.Equal(got, c.want) {
			t.Errorf("%d: %v; want %v", i, got, c.want)
		}
	}
}

// R1: how goroutines take turns is not to be seen.
func TestTogether(t *testing.T) {
	l := justs(8, 1, 2, 3, 20, 200, 128, 0)
	v, n := follow(l)
	samples.Together(func() {
		u, e := grow.Row(l...)
		m, f := grow.Steps(l...)
		if u != v || m != n || e != api.OK || f != api.OK {
			t.Errorf("told %+v, %d; %d, %d", u, m, e, f)
		}
	})
}
