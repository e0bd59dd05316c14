package abs_test

import (
	"slices"
	"testing"

	"cellar/abs"
	"cellar/api"
	"cellar/samples"
)

// most is what P15.3 says: how often a set may be another one.
const most = (api.MaxGrow + 1) * (api.MaxVars + api.MaxNews + 1)

// wide is Wide of sets that may be.
func wide(t *testing.T, kind int, a api.Abs, b api.Abs) api.Abs {
	t.Helper()
	x, e := abs.Wide(kind, a, b)
	if e != api.OK {
		t.Fatalf("Wide(%d, %+v, %+v): %d", kind, a, b, e)
	}
	return x
}

// steps is how often a set is another one by what comes, one by one.
func steps(t *testing.T, kind int, x api.Abs, l []api.Abs) int {
	t.Helper()
	n := 0
	for _, y := range l {
		next := wide(t, kind, x, y)
		if !samples.AlikeAbs(next, x) {
			n++
		}
		x = next
	}
	if n > most {
		t.Fatalf("%d: another one %d times", kind, n)
	}
	return n
}

// P15.3: whatever comes.
func TestRows(t *testing.T) {
	for _, kind := range samples.ScalarKinds() {
		number := numbers(20)
		for range 150 {
			var l []api.Abs
			for range 200 {
				l = append(l, samples.SomeAbs(number, kind))
			}
			if n := steps(t, kind, l[0], l[1:]); kind != api.KPtr && n > api.MaxGrow {
				t.Fatalf("%d: another one %d times", kind, n)
			}
		}
	}
}

// ones are sets of one scalar each.
func ones(t *testing.T, kind int, l []api.Scalar) []api.Abs {
	t.Helper()
	var sets []api.Abs
	for _, s := range l {
		x, e := abs.One(kind, s)
		if e != api.OK {
			t.Fatalf("One(%d, %+v): %d", kind, s, e)
		}
		sets = append(sets, x)
	}
	return sets
}

// P15.3: scalars one by one, rising, falling, here and there, from whatever set on.
func TestOneByOne(t *testing.T) {
	for _, kind := range samples.ScalarKinds() {
		rising := ones(t, kind, pool(kind))
		falling := slices.Clone(rising)
		slices.Reverse(falling)
		var jumping []api.Abs
		for i := range rising {
			jumping = append(jumping, rising[i*53%len(rising)])
		}
		for _, start := range append(samples.Abses(kind), samples.EmptyAbses(kind)...) {
			for _, l := range [][]api.Abs{rising, falling, jumping} {
				if n := steps(t, kind, start, l); kind != api.KPtr && n > api.MaxGrow {
					t.Fatalf("%d: from %+v another one %d times", kind, start, n)
				}
			}
		}
	}
}

// furthest is the most steps that pointers to one block can make behind x, of which all
// are to it.
func furthest(t *testing.T, x api.Abs, l []api.Abs, seen map[api.Val]int) int {
	v := api.Val{}
	if len(x.Ptrs) > 0 {
		v = x.Ptrs[0].Off
	}
	if n, known := seen[v]; known {
		return n
	}
	seen[v] = most + 1 // who comes round to x again never ends
	far := 0
	for _, y := range l {
		if next := wide(t, api.KPtr, x, y); !samples.AlikeAbs(next, x) {
			far = max(far, 1+furthest(t, next, l, seen))
		}
	}
	seen[v] = far
	return far
}

// P15.3: one block's pointers, however cunningly they are chosen, from whatever set on,
// what lies beyond MaxSize among them: so all blocks together keep within the promise.
func TestFurthest(t *testing.T) {
	seen := map[api.Val]int{}
	l := ones(t, api.KPtr, samples.AllPointers()[1:api.MaxSize+2])
	starts := append(samples.Abses(api.KPtr), samples.EmptyAbses(api.KPtr)...)
	for _, v := range samples.Sets(8) {
		starts = append(starts, to(1, v))
	}
	for _, start := range starts {
		if len(start.Ptrs) == 0 || len(start.Ptrs) == 1 && start.Ptrs[0].Block == 1 {
			if n := furthest(t, start, l, seen); n > api.MaxGrow+1 {
				t.Errorf("%+v grows %d times", start, n)
			}
		}
	}
	null := ones(t, api.KPtr, []api.Scalar{samples.Null()})
	if n := steps(t, api.KPtr, api.Abs{}, []api.Abs{null[0], null[0], to(0, samples.Row(8, 0, 0)), {}}); n != 1 {
		t.Errorf("null alone: another one %d times", n)
	}
}

// size is how many pointers x has.
func size(x api.Abs) int {
	return len(samples.AbsMembers(api.KPtr, x))
}

// P15.3: each time what adds the least, to whichever block: then each has its turn.
func TestLeast(t *testing.T) {
	number := numbers(21)
	for range 3 {
		l := ones(t, api.KPtr, samples.AllPointers())
		for range 60 {
			l = append(l, samples.SomeAbs(number, api.KPtr))
		}
		var x api.Abs
		for range most {
			best, least := x, 0
			for _, y := range l {
				if in, _ := abs.In(api.KPtr, y, x); in {
					continue
				}
				if next := wide(t, api.KPtr, x, y); least == 0 || size(next) < least {
					best, least = next, size(next)
				}
			}
			x = best // itself, if nothing is new any more
		}
		if size(x) != len(samples.AllPointers()) {
			t.Fatalf("%d times did not do: %+v", most, x)
		}
	}
}
