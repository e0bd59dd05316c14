package val_test

import (
	"math"
	"math/rand"
	"slices"
	"sync"
	"testing"

	"cellar/api"
	"cellar/samples"
	"cellar/val"
)

// The face: each line stops compiling if a signature changes.
var (
	_ func(api.Val) api.Errno                     = val.Check
	_ func(api.Val, int) (bool, api.Errno)        = val.Has
	_ func(api.Val, int) (int, api.Errno)         = val.Next
	_ func(int, int) (api.Val, api.Errno)         = val.One
	_ func(int) (api.Val, api.Errno)              = val.All
	_ func(int) (api.Val, api.Errno)              = val.No
	_ func(api.Val) (bool, api.Errno)             = val.Empty
	_ func(api.Val) (bool, int, api.Errno)        = val.Single
	_ func(api.Val, api.Val) (api.Val, api.Errno) = val.Join
	_ func(api.Val, api.Val) (api.Val, api.Errno) = val.Meet
	_ func(api.Val, api.Val) (bool, api.Errno)    = val.In
)

func widths() []int {
	return []int{8, 16, 32}
}

func notWidths() []int {
	return []int{0, 1, 7, 9, 15, 31, 33, 64, -8, -32, math.MaxInt, math.MinInt}
}

// notNumbers are no numbers of a width.
func notNumbers(w int) []int {
	return []int{-1, -1 << (w - 1), 1 << w, 1<<w + 1, math.MaxInt, math.MinInt}
}

// wrong are sets of a width that may not be.
func wrong(w int) []api.Val {
	top := 1<<w - 1
	l := []api.Val{
		{Width: w, Low: 0, High: top, Free: 1, Bits: 1},
		{Width: w, Low: 0, High: top, Free: top, Bits: 1 << (w - 1)},
		{Width: w, Low: 3, High: 3, Free: 6, Bits: 3},
		{Width: w, None: true, Low: 1},
		{Width: w, None: true, High: top},
		{Width: w, None: true, Free: top},
		{Width: w, None: true, Bits: 1},
		{Width: w, None: true, Low: -1},
	}
	for _, n := range notNumbers(w) {
		l = append(l,
			api.Val{Width: w, Low: n, High: top, Free: top},
			api.Val{Width: w, High: n, Free: top},
			api.Val{Width: w, High: top, Free: n},
			api.Val{Width: w, High: top, Bits: n},
		)
	}
	return l
}

// wrongWidths are sets that would be, but for their width.
func wrongWidths() []api.Val {
	var l []api.Val
	for _, w := range notWidths() {
		l = append(l, api.Val{Width: w}, api.Val{Width: w, None: true}, api.Val{Width: w, High: 5, Free: 7})
	}
	return l
}

// few are the members of a set of whatever width that has few free bits.
func few(v api.Val) []int {
	var l []int
	for part := v.Free; ; part = (part - 1) & v.Free {
		if n := part | v.Bits; samples.Has(v, n) {
			l = append(l, n)
		}
		if part == 0 {
			slices.Sort(l)
			return l
		}
	}
}

// holds is a set that may be and has all of the list.
func holds(v api.Val, l []int) bool {
	for _, n := range l {
		if !samples.Has(v, n) {
			return false
		}
	}
	return val.Check(v) == api.OK
}

// some is a set whose fields stand at random places; often it is small.
func some(r *rand.Rand, w int, most int) api.Val {
	top := 1<<w - 1
	number := func() int { return int(r.Uint64()) & top }
	free := 0
	for range r.Intn(most + 1) {
		free |= 1 << r.Intn(w)
	}
	switch r.Intn(8) {
	case 0:
		return api.Val{Width: w, None: true}
	case 1:
		n := number()
		return api.Val{Width: w, Low: n, High: n, Bits: n}
	case 2:
		return api.Val{Width: w, Low: number(), High: number(), Free: free, Bits: number() &^ free}
	case 3:
		return api.Val{Width: w, High: top, Free: free, Bits: number() &^ free}
	}
	// Ends near to what the bits allow.
	base := number() &^ free
	end := func() int { return (base | number()&free + r.Intn(3) - 1) & top }
	return api.Val{Width: w, Low: end(), High: end(), Free: free, Bits: base}
}

// edges are sets of 8 bits that the chapter's words have something to say of.
func edges() []api.Val {
	return []api.Val{
		{Width: 8, None: true},
		{Width: 8, High: 255, Free: 255},
		{Width: 8, Low: 5, High: 4, Free: 255},          // all, gone round
		{Width: 8, Low: 255, High: 254, Free: 255},      // all, gone round
		{Width: 8, Low: 1, High: 0, Free: 254, Bits: 1}, // all odd ones
		{Width: 8, Low: 3, High: 3, Bits: 3},            // 3
		{Width: 8, Low: 0, High: 255, Bits: 3},          // 3
		{Width: 8, Low: 3, High: 3, Free: 255},          // 3
		{Width: 8, Low: 250, High: 4, Bits: 3},          // 3
		{Width: 8, Low: 2, High: 4, Free: 254, Bits: 1}, // 3
		{Width: 8, Low: 3, High: 3, Bits: 2},            // empty
		{Width: 8, Low: 4, High: 2, Bits: 3},            // empty: 3 lies in the gap
		{Width: 8, Low: 4, High: 5, Free: 252, Bits: 3}, // empty
		{Width: 8}, // 0
		{Width: 8, Low: 255, High: 255, Bits: 255},            // 255
		{Width: 8, Low: 255, High: 0, Free: 255},              // 255, 0
		{Width: 8, Low: 255, High: 0, Free: 254},              // 0
		{Width: 8, Low: 255, High: 0, Free: 254, Bits: 1},     // 255
		{Width: 8, Low: 255, High: 0, Free: 252, Bits: 2},     // empty
		{Width: 8, Low: 128, High: 127, Free: 255},            // all, gone round
		{Width: 8, Low: 200, High: 50, Free: 255},             // round
		{Width: 8, Low: 100, High: 50, Free: 255},             // round
		{Width: 8, Low: 220, High: 200, Free: 255},            // round
		{Width: 8, Low: 0, High: 254, Free: 255},              // all but 255
		{Width: 8, Low: 1, High: 255, Free: 255},              // all but 0
		{Width: 8, Low: 129, High: 127, Free: 255},            // all but 128
		{Width: 8, Low: 60, High: 220, Free: 255},             //
		{Width: 8, Low: 0, High: 255, Free: 0x81, Bits: 0x18}, // four
		{Width: 8, Low: 0x99, High: 0x18, Free: 0x81, Bits: 0x18},
		{Width: 8, Low: 0, High: 255, Free: 0x7F},
		{Width: 8, Low: 10, High: 5, Free: 0x7F},
	}
}

// sets8 are sets of 8 bits: the edges, and others.
func sets8(count int) []api.Val {
	r := rand.New(rand.NewSource(3))
	l := edges()
	for len(l) < count {
		l = append(l, some(r, 8, 8))
	}
	return l
}

// P3.1, Check: sets that may be, and those that may not.
func TestCheck(t *testing.T) {
	for _, v := range sets8(2000) {
		if e := val.Check(v); e != api.OK {
			t.Errorf("Check(%v) = %d", v, e)
		}
	}
	r := rand.New(rand.NewSource(4))
	for _, w := range widths() {
		for range 500 {
			v := some(r, w, w)
			if e := val.Check(v); e != api.OK {
				t.Errorf("Check(%v) = %d", v, e)
			}
		}
		for _, v := range append(wrong(w), wrongWidths()...) {
			if e := val.Check(v); e != api.ErrForm {
				t.Errorf("Check(%v) = %d; want ErrForm", v, e)
			}
		}
	}
}

// P3.1, all calls of a set that may not be.
func TestForm(t *testing.T) {
	for _, w := range widths() {
		for _, v := range append(wrong(w), wrongWidths()...) {
			for _, n := range []int{0, 1, -1, 1 << w, math.MinInt} {
				if is, e := val.Has(v, n); is || e != api.ErrForm {
					t.Errorf("Has(%v, %d) = %v, %d; want ErrForm", v, n, is, e)
				}
				if m, e := val.Next(v, n); m != 0 || e != api.ErrForm {
					t.Errorf("Next(%v, %d) = %d, %d; want ErrForm", v, n, m, e)
				}
			}
			if is, e := val.Empty(v); is || e != api.ErrForm {
				t.Errorf("Empty(%v) = %v, %d; want ErrForm", v, is, e)
			}
			if is, n, e := val.Single(v); is || n != 0 || e != api.ErrForm {
				t.Errorf("Single(%v) = %v, %d, %d; want ErrForm", v, is, n, e)
			}
			refusePair(t, v, v)
			for _, may := range []api.Val{{Width: w, None: true}, {Width: w}, {Width: w, High: 5, Free: 7}} {
				refusePair(t, v, may)
				refusePair(t, may, v)
			}
		}
	}
}

// refusePair: ErrForm, and nothing beside it, of all that is asked of two sets.
func refusePair(t *testing.T, a, b api.Val) {
	t.Helper()
	if v, e := val.Join(a, b); v != (api.Val{}) || e != api.ErrForm {
		t.Errorf("Join(%v, %v) = %v, %d; want ErrForm", a, b, v, e)
	}
	if v, e := val.Meet(a, b); v != (api.Val{}) || e != api.ErrForm {
		t.Errorf("Meet(%v, %v) = %v, %d; want ErrForm", a, b, v, e)
	}
	if is, e := val.In(a, b); is || e != api.ErrForm {
		t.Errorf("In(%v, %v) = %v, %d; want ErrForm", a, b, is, e)
	}
}

// P3.2, sets of unlike widths, without members and of all numbers, too.
func TestUnlikeWidths(t *testing.T) {
	of := func(w int) []api.Val {
		return []api.Val{{Width: w, None: true}, {Width: w}, {Width: w, High: 1<<w - 1, Free: 1<<w - 1}, {Width: w, Low: 9, High: 3, Free: 255}}
	}
	for _, w := range widths() {
		for _, other := range widths() {
			if w == other {
				continue
			}
			for _, a := range of(w) {
				for _, b := range of(other) {
					refusePair(t, a, b)
				}
			}
		}
	}
}

// P3.1, Has and Next of a number that is none of the width, whatever the set.
func TestNoNumber(t *testing.T) {
	for _, w := range widths() {
		for _, v := range []api.Val{{Width: w, None: true}, {Width: w}, {Width: w, High: 1<<w - 1, Free: 1<<w - 1}} {
			for _, n := range notNumbers(w) {
				if is, e := val.Has(v, n); is || e != api.ErrForm {
					t.Errorf("Has(%v, %d) = %v, %d; want ErrForm", v, n, is, e)
				}
				if m, e := val.Next(v, n); m != 0 || e != api.ErrForm {
					t.Errorf("Next(%v, %d) = %d, %d; want ErrForm", v, n, m, e)
				}
			}
		}
	}
}

// ask holds Has, Next, Empty and Single of a set against all its members, and
// asks of the numbers given.
func ask(t *testing.T, v api.Val, members []int, numbers []int) {
	t.Helper()
	for _, n := range numbers {
		at, is := slices.BinarySearch(members, n)
		if got, e := val.Has(v, n); got != is || e != api.OK {
			t.Fatalf("Has(%v, %d) = %v, %d; want %v", v, n, got, e, is)
		}
		want, wantE := 0, api.ErrNone
		if at < len(members) {
			want, wantE = members[at], api.OK
		}
		if m, e := val.Next(v, n); m != want || e != wantE {
			t.Fatalf("Next(%v, %d) = %d, %d; want %d, %d", v, n, m, e, want, wantE)
		}
	}
	if is, e := val.Empty(v); is != (len(members) == 0) || e != api.OK {
		t.Fatalf("Empty(%v) = %v, %d, of %d", v, is, e, len(members))
	}
	wantN := 0
	if len(members) == 1 {
		wantN = members[0]
	}
	if is, n, e := val.Single(v); is != (len(members) == 1) || n != wantN || e != api.OK {
		t.Fatalf("Single(%v) = %v, %d, %d, of %d", v, is, n, e, len(members))
	}
}

// P3.1, members of 8 bits: all free bits with all ends about them.
func TestMembers(t *testing.T) {
	numbers := make([]int, 256)
	for n := range numbers {
		numbers[n] = n
	}
	for _, v := range sets8(3000) {
		ask(t, v, samples.Members(v), numbers)
	}
	ends := []int{0, 1, 5, 127, 128, 200, 255}
	for free := range 256 {
		for _, bits := range []int{0, 255, 0x5A} {
			for _, low := range ends {
				for _, high := range ends {
					v := api.Val{Width: 8, Low: low, High: high, Free: free, Bits: bits &^ free}
					ask(t, v, samples.Members(v), []int{0, low, high, 1, 77, 128, 254, 255})
				}
			}
		}
	}
}

// P3.1, members of 16 and 32 bits.
func TestWideMembers(t *testing.T) {
	r := rand.New(rand.NewSource(5))
	for range 3000 {
		for _, w := range []int{16, 32} {
			v := some(r, w, 6)
			members := few(v)
			numbers := []int{0, 1<<w - 1, v.Low, v.High, int(r.Uint64()) & (1<<w - 1)}
			for _, n := range members {
				numbers = append(numbers, n, (n+1)&(1<<w-1), (n-1)&(1<<w-1))
			}
			ask(t, v, members, numbers)
		}
	}
}

// P3.1 of many numbers of 32 bits, written out.
func TestManyMembers(t *testing.T) {
	const top = 1<<32 - 1
	round := api.Val{Width: 32, Low: 1<<32 - 3, High: 2, Free: top}
	odd := api.Val{Width: 32, Low: 6, High: top - 1, Free: top - 1, Bits: 1}
	for _, c := range []struct {
		v    api.Val
		n    int
		next int
		e    api.Errno
	}{
		{round, 0, 0, api.OK}, {round, 2, 2, api.OK}, {round, 3, 1<<32 - 3, api.OK}, {round, top, top, api.OK},
		{odd, 0, 7, api.OK}, {odd, 8, 9, api.OK}, {odd, top - 2, top - 2, api.OK}, {odd, top - 1, 0, api.ErrNone}, {odd, top, 0, api.ErrNone},
	} {
		if n, e := val.Next(c.v, c.n); n != c.next || e != c.e {
			t.Errorf("Next(%v, %d) = %d, %d; want %d, %d", c.v, c.n, n, e, c.next, c.e)
		}
		is, e := val.Has(c.v, c.n)
		if want := c.e == api.OK && c.next == c.n; is != want || e != api.OK {
			t.Errorf("Has(%v, %d) = %v, %d; want %v", c.v, c.n, is, e, want)
		}
		if is, n, e := val.Single(c.v); is || n != 0 || e != api.OK {
			t.Errorf("Single(%v) = %v, %d, %d", c.v, is, n, e)
		}
		if is, e := val.Empty(c.v); is || e != api.OK {
			t.Errorf("Empty(%v) = %v, %d", c.v, is, e)
		}
	}
}

// P3.1, One: just the number (example 1: One(8, 3) is 3 alone).
func TestOne(t *testing.T) {
	for _, w := range widths() {
		for _, n := range []int{0, 1, 3, 127, 128, 255, 1<<(w-1) - 1, 1 << (w - 1), 1<<w - 2, 1<<w - 1} {
			v, e := val.One(w, n)
			is, m, f := val.Single(v)
			if e != api.OK || f != api.OK || v.Width != w || !is || m != n || !samples.Has(v, n) {
				t.Errorf("One(%d, %d) = %v, %d: %v, %d, %d", w, n, v, e, is, m, f)
			}
		}
		for _, n := range notNumbers(w) {
			if v, e := val.One(w, n); v != (api.Val{}) || e != api.ErrForm {
				t.Errorf("One(%d, %d) = %v, %d; want ErrForm", w, n, v, e)
			}
		}
	}
	if v, e := val.One(8, 3); e != api.OK || !slices.Equal(samples.Members(v), []int{3}) {
		t.Errorf("One(8, 3) = %v, %d", v, e)
	}
}

// P3.1, All and No.
func TestAllAndNo(t *testing.T) {
	for _, w := range widths() {
		every, e := val.All(w)
		none, f := val.No(w)
		if e != api.OK || f != api.OK || none != (api.Val{Width: w, None: true}) || every.Width != w || val.Check(every) != api.OK {
			t.Fatalf("All(%d) = %v, %d; No = %v, %d", w, every, e, none, f)
		}
		for i := range w + 1 {
			for d := -1; d <= 1; d++ {
				if n := 1<<i + d; n < 1<<w && (!samples.Has(every, n) || samples.Has(none, n)) {
					t.Errorf("%d: All(%d) = %v, No = %v", n, w, every, none)
				}
			}
		}
		if is, e := val.Empty(none); !is || e != api.OK {
			t.Errorf("Empty(No(%d)) = %v, %d", w, is, e)
		}
	}
	if every, _ := val.All(8); len(samples.Members(every)) != 256 {
		t.Errorf("All(8) = %v", every)
	}
	if every, _ := val.All(16); len(samples.Members(every)) != 1<<16 {
		t.Errorf("All(16) = %v", every)
	}
	for _, w := range notWidths() {
		every, e := val.All(w)
		none, f := val.No(w)
		one, g := val.One(w, 0)
		if every != (api.Val{}) || none != (api.Val{}) || one != (api.Val{}) || e != api.ErrForm || f != api.ErrForm || g != api.ErrForm {
			t.Errorf("%d: All = %v, %d; No = %v, %d; One = %v, %d", w, every, e, none, f, one, g)
		}
	}
}

// pair holds Join, Meet and In of two sets against their members.
func pair(t *testing.T, a, b api.Val, inA, inB []int, members func(api.Val) []int) {
	t.Helper()
	join, e := val.Join(a, b)
	if e != api.OK || join.Width != a.Width || !holds(join, inA) || !holds(join, inB) {
		t.Fatalf("Join(%v, %v) = %v, %d", a, b, join, e)
	}
	if one, n := together(inA, inB); one {
		if is, m, f := val.Single(join); !is || m != n || f != api.OK {
			t.Fatalf("Join(%v, %v) = %v; want just %d", a, b, join, n)
		}
	}
	meet, e := val.Meet(a, b)
	var both []int
	for _, n := range inA {
		if _, is := slices.BinarySearch(inB, n); is {
			both = append(both, n)
		}
	}
	if e != api.OK || meet.Width != a.Width || !holds(meet, both) || !holds(a, members(meet)) {
		t.Fatalf("Meet(%v, %v) = %v, %d", a, b, meet, e)
	}
	if is, f := val.Empty(meet); (len(inA) == 0 || len(inB) == 0) && !is || f != api.OK {
		t.Fatalf("Meet(%v, %v) = %v; want none", a, b, meet)
	}
	in, e := val.In(a, b)
	if in != (len(both) == len(inA)) || e != api.OK {
		t.Fatalf("In(%v, %v) = %v, %d: %d of %d", a, b, in, e, len(both), len(inA))
	}
}

// together is whether there is no more than one number in both, and which.
func together(a, b []int) (bool, int) {
	both := slices.Concat(a, b)
	slices.Sort(both)
	both = slices.Compact(both)
	if len(both) != 1 {
		return false, 0
	}
	return true, both[0]
}

// P3.2 of 8 bits: all pairs of many sets. In tells all that is so, which is
// more than the promise asks.
func TestPairs(t *testing.T) {
	l := sets8(300)
	lists := make([][]int, len(l))
	for i, v := range l {
		lists[i] = samples.Members(v)
	}
	for i, a := range l {
		for k, b := range l {
			pair(t, a, b, lists[i], lists[k], samples.Members)
		}
	}
}

// P3.2 of 16 and 32 bits.
func TestWidePairs(t *testing.T) {
	r := rand.New(rand.NewSource(6))
	for _, w := range []int{16, 32} {
		var l []api.Val
		var lists [][]int
		for len(l) < 150 {
			v := some(r, w, 5)
			l, lists = append(l, v), append(lists, few(v))
		}
		for i, a := range l {
			for k, b := range l {
				pair(t, a, b, lists[i], lists[k], few)
			}
		}
	}
}

// P3.2, many numbers: sets of 32 bits that go over the end, and do not.
func TestManyPairs(t *testing.T) {
	const top = 1<<32 - 1
	round := api.Val{Width: 32, Low: top - 9, High: 9, Free: top}
	middle := api.Val{Width: 32, Low: 100, High: top - 5, Free: top}
	even := api.Val{Width: 32, High: top, Free: top - 1}
	join, e := val.Join(round, middle)
	if e != api.OK || !holds(join, []int{0, 9, 100, 1 << 31, top - 5, top - 4, top}) {
		t.Errorf("Join = %v, %d", join, e)
	}
	meet, e := val.Meet(round, middle)
	if e != api.OK || !holds(meet, []int{top - 9, top - 7, top - 5}) || samples.Has(meet, 10) || samples.Has(meet, 1<<31) || samples.Has(meet, top-10) {
		t.Errorf("Meet = %v, %d", meet, e)
	}
	meet, e = val.Meet(middle, even)
	if e != api.OK || !holds(meet, []int{100, 1 << 31, top - 5}) || samples.Has(meet, 99) || samples.Has(meet, 98) || samples.Has(meet, top-3) {
		t.Errorf("Meet = %v, %d", meet, e)
	}
	for _, c := range []struct {
		a, b api.Val
		in   bool
	}{{round, middle, false}, {middle, round, false}, {even, middle, false}, {meet, middle, true}, {middle, meet, false}, {round, join, true}} {
		if is, e := val.In(c.a, c.b); is != c.in || e != api.OK {
			t.Errorf("In(%v, %v) = %v, %d; want %v", c.a, c.b, is, e, c.in)
		}
	}
}

// P3.2, In, what is true at least: each of the chapter's four, of all widths.
func TestIn(t *testing.T) {
	r := rand.New(rand.NewSource(7))
	for _, w := range widths() {
		every, _ := val.All(w)
		turned := api.Val{Width: w, Low: 7, High: 6, Free: every.Free} // all as well
		none, _ := val.No(w)
		empty := api.Val{Width: w, Low: 3, High: 3, Bits: 1}
		for range 2000 {
			v := some(r, w, w)
			for _, c := range [][2]api.Val{{none, v}, {empty, v}, {v, v}, {v, every}, {v, turned}} {
				if is, e := val.In(c[0], c[1]); !is || e != api.OK {
					t.Fatalf("In(%v, %v) = %v, %d", c[0], c[1], is, e)
				}
			}
			n := int(r.Uint64()) & (1<<w - 1)
			if next, e := val.Next(v, n); e == api.OK {
				n = next
			}
			one, _ := val.One(w, n)
			if is, e := val.In(one, v); is != samples.Has(v, n) || e != api.OK {
				t.Fatalf("In(%v, %v) = %v, %d", one, v, is, e)
			}
		}
	}
}

// P3.2, Join, just it: the same number in sets that are written unlike, and beside empty ones.
func TestJoinSingles(t *testing.T) {
	three := []api.Val{
		{Width: 8, Low: 3, High: 3, Bits: 3}, {Width: 8, High: 255, Bits: 3}, {Width: 8, Low: 3, High: 3, Free: 255},
		{Width: 8, Low: 250, High: 4, Bits: 3}, {Width: 8, Low: 2, High: 4, Free: 254, Bits: 1}, {Width: 8, Low: 1, High: 0, Bits: 3},
	}
	empty := []api.Val{{Width: 8, None: true}, {Width: 8, Low: 3, High: 3, Bits: 2}, {Width: 8, Low: 4, High: 2, Bits: 3}}
	for _, a := range three {
		for _, b := range slices.Concat(three, empty) {
			for _, c := range [][2]api.Val{{a, b}, {b, a}} {
				if v, e := val.Join(c[0], c[1]); e != api.OK || !slices.Equal(samples.Members(v), []int{3}) {
					t.Errorf("Join(%v, %v) = %v, %d; want just 3", c[0], c[1], v, e)
				}
			}
		}
	}
	for _, a := range empty {
		for _, b := range empty {
			if v, e := val.Join(a, b); e != api.OK || v != (api.Val{Width: 8, None: true}) {
				t.Errorf("Join(%v, %v) = %v, %d; want none", a, b, v, e)
			}
		}
	}
}

// More than P3.2 asks: where one set has all of the other, nothing is lost.
func TestNothingLost(t *testing.T) {
	l := sets8(250)
	for _, a := range l {
		for _, b := range l {
			if is, _ := val.In(a, b); !is {
				continue
			}
			join, _ := val.Join(a, b)
			turned, _ := val.Join(b, a)
			meet, _ := val.Meet(a, b)
			small, _ := val.Meet(b, a)
			if !slices.Equal(samples.Members(join), samples.Members(b)) || !slices.Equal(samples.Members(turned), samples.Members(b)) {
				t.Fatalf("Join(%v, %v) = %v, turned %v", a, b, join, turned)
			}
			if !slices.Equal(samples.Members(meet), samples.Members(a)) || !slices.Equal(samples.Members(small), samples.Members(a)) {
				t.Fatalf("Meet(%v, %v) = %v, turned %v", a, b, meet, small)
			}
		}
	}
}

// More than P3.2 asks: what all members' bits have alike stays, and the widest gap.
func TestLittleAdded(t *testing.T) {
	for _, c := range []struct {
		a, b api.Val
		want []int
	}{
		{api.Val{Width: 8, Low: 3, High: 3, Bits: 3}, api.Val{Width: 8, Low: 7, High: 7, Bits: 7}, []int{3, 7}},
		{api.Val{Width: 8, Low: 4, High: 5, Free: 255}, api.Val{Width: 8, Low: 132, High: 133, Free: 255}, []int{4, 5, 132, 133}},
		{api.Val{Width: 8, Low: 250, High: 252, Free: 255}, api.Val{Width: 8, Low: 1, High: 2, Free: 255}, []int{250, 251, 252, 253, 254, 255, 0, 1, 2}},
		{api.Val{Width: 8, Low: 255, High: 1, Free: 255}, api.Val{Width: 8, Low: 3, High: 4, Free: 255}, []int{255, 0, 1, 2, 3, 4}},
	} {
		slices.Sort(c.want)
		if v, e := val.Join(c.a, c.b); e != api.OK || !slices.Equal(samples.Members(v), c.want) {
			t.Errorf("Join(%v, %v) = %v, %d: %v; want %v", c.a, c.b, v, e, samples.Members(v), c.want)
		}
	}
}

// walk is all that Next leads through.
func walk(t *testing.T, v api.Val) []int {
	t.Helper()
	var l []int
	for n := 0; n < 1<<v.Width; n++ {
		m, e := val.Next(v, n)
		if e == api.ErrNone {
			return l
		}
		if e != api.OK || m < n {
			t.Fatalf("Next(%v, %d) = %d, %d", v, n, m, e)
		}
		l, n = append(l, m), m
	}
	return l
}

// P3.3: Next leads through all members, and no others.
func TestNextLeads(t *testing.T) {
	for _, v := range sets8(2000) {
		if l := walk(t, v); !slices.Equal(l, samples.Members(v)) {
			t.Fatalf("%v: %v; want %v", v, l, samples.Members(v))
		}
	}
	r := rand.New(rand.NewSource(8))
	for range 40 {
		if v := some(r, 16, 16); !slices.Equal(walk(t, v), samples.Members(v)) {
			t.Fatalf("%v: %v; want %v", v, walk(t, v), samples.Members(v))
		}
	}
	for range 2000 {
		if v := some(r, 32, 8); !slices.Equal(walk(t, v), few(v)) {
			t.Fatalf("%v: %v; want %v", v, walk(t, v), few(v))
		}
	}
}

// R1: the same call tells the same, whoever else calls.
func TestTogether(t *testing.T) {
	l := edges()
	type told struct {
		join, meet api.Val
		in         bool
	}
	tell := func(i, k int) told {
		join, e := val.Join(l[i], l[k])
		meet, f := val.Meet(l[i], l[k])
		in, g := val.In(l[i], l[k])
		if e != api.OK || f != api.OK || g != api.OK {
			t.Errorf("%v, %v: %d, %d, %d", l[i], l[k], e, f, g)
		}
		return told{join, meet, in}
	}
	var every sync.WaitGroup
	for i := range l {
		want := tell(i, (i+7)%len(l))
		for range 4 {
			every.Add(1)
			go func() {
				defer every.Done()
				if got := tell(i, (i+7)%len(l)); got != want {
					t.Errorf("%v: %v; want %v", l[i], got, want)
				}
			}()
		}
	}
	every.Wait()
}
