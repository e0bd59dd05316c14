package mem_test

import (
	"math"
	"testing"

	"cellar/api"
	"cellar/mem"
	"cellar/samples"
)

// less is the number of KI32 whose view is n less than 0.
func less(n int) int {
	return 1<<32 - n
}

// P9.2, Move: what is told, written out.
func TestMoveWrittenOut(t *testing.T) {
	for _, c := range []struct {
		p   api.Scalar
		n   int
		q   api.Scalar
		bad int
	}{
		{pointer(1, 0), 0, pointer(1, 0), api.BadNone},
		{pointer(1, 0), 8, pointer(1, 8), api.BadNone}, // just behind the block
		{pointer(1, 3), 4, pointer(1, 7), api.BadNone},
		{pointer(1, 3), less(3), pointer(1, 0), api.BadNone},
		{pointer(1, 8), less(1), pointer(1, 7), api.BadNone},
		{pointer(1, 32), less(32), pointer(1, 0), api.BadNone}, // from beyond the block back
		{pointer(1, 32), less(24), pointer(1, 8), api.BadNone},
		{pointer(6, 0), 0, pointer(6, 0), api.BadNone},
		{null(), 0, null(), api.BadNone},

		{null(), 1, api.Scalar{}, api.BadNull},
		{null(), less(1), api.Scalar{}, api.BadNull},
		{pointer(2, 0), 0, api.Scalar{}, api.BadNull},
		{pointer(4, 0), 0, api.Scalar{}, api.BadNull},
		{pointer(5, 0), 0, api.Scalar{}, api.BadNull},
		{pointer(2, 1), less(2), api.Scalar{}, api.BadNull}, // ahead of bounds
		{pointer(1, 0), 9, api.Scalar{}, api.BadBounds},
		{pointer(1, 0), less(1), api.Scalar{}, api.BadBounds},
		{pointer(1, 3), less(4), api.Scalar{}, api.BadBounds},
		{pointer(1, 8), 1, api.Scalar{}, api.BadBounds},
		{pointer(1, 9), 0, api.Scalar{}, api.BadBounds},
		{pointer(1, 32), less(23), api.Scalar{}, api.BadBounds},
		{pointer(6, 0), 1, api.Scalar{}, api.BadBounds},
		{pointer(1, 0), 1<<31 - 1, api.Scalar{}, api.BadBounds},
		{pointer(1, 0), 1 << 31, api.Scalar{}, api.BadBounds},
		{pointer(1, 1), less(256), api.Scalar{}, api.BadBounds},
		{pointer(1, 1), 1 << 16, api.Scalar{}, api.BadBounds},
	} {
		if q, bad, e := mem.Move(some(), c.p, c.n); q != c.q || bad != c.bad || e != api.OK {
			t.Errorf("Move(%+v, %d) = %+v, %d, %d; want %+v, %d", c.p, c.n, q, bad, e, c.q, c.bad)
		}
	}
}

// moved is chapter 9's words on a pointer moved by a view.
func moved(m []api.Block, p api.Scalar, view int) (api.Scalar, int) {
	if m[p.Block].State != api.Alive && (p != null() || view != 0) {
		return api.Scalar{}, api.BadNull
	}
	for off := 0; off <= len(m[p.Block].Bytes); off++ {
		if off == p.Off+view {
			p.Off = off
			return p, api.BadNone
		}
	}
	return api.Scalar{}, api.BadBounds
}

// P9.2, Move: of all pointers to the samples' blocks, held against the chapter's words.
func TestMove(t *testing.T) {
	views := []int{-1 << 31, -1<<31 + 1, -65536, -256, 255, 256, 65536, 1<<31 - 33, 1<<31 - 1}
	for view := -34; view <= 34; view++ {
		views = append(views, view)
	}
	for _, m := range append(samples.Memories(), some()) {
		for _, p := range pointers(m) {
			for _, view := range views {
				want, wrong := moved(m, p, view)
				n := view
				if view < 0 {
					n = less(-view)
				}
				if q, bad, e := mem.Move(m, p, n); q != want || bad != wrong || e != api.OK {
					t.Fatalf("Move(%v, %+v, %d) = %+v, %d, %d; want %+v, %d", m, p, n, q, bad, e, want, wrong)
				}
			}
		}
	}
}

// P9.2, Move: memory, pointers and numbers that may not be.
func TestMoveOfWrong(t *testing.T) {
	refused := func(m []api.Block, p api.Scalar, n int) {
		t.Helper()
		if q, bad, e := mem.Move(m, p, n); q != (api.Scalar{}) || bad != api.BadNone || e != api.ErrForm {
			t.Errorf("Move(%v, %+v, %d) = %+v, %d, %d", m, p, n, q, bad, e)
		}
	}
	for _, n := range []int{0, 1, less(1)} {
		for _, p := range notPointers(some()) {
			refused(some(), p, n)
		}
		for _, m := range samples.NotMemories() {
			refused(m, null(), n)
			refused(m, pointer(1, 0), n)
			refused(m, pointer(1, 1), n)
		}
	}
	for _, n := range []int{-1, -4, 1 << 32, 1<<32 + 1, math.MaxInt, math.MinInt} {
		for _, p := range []api.Scalar{null(), pointer(1, 0), pointer(1, 8), pointer(2, 0), pointer(6, 0)} {
			refused(some(), p, n)
		}
	}
}

// P9.2, Apart: all pairs of pointers; whether their block is Alive does not count.
func TestApart(t *testing.T) {
	for _, m := range [][]api.Block{some(), memory(), memory(gone(), room())} {
		for _, p := range pointers(m) {
			for _, q := range pointers(m) {
				want, wrong := 0, api.BadPair
				if p.Block == q.Block {
					want, wrong = p.Off-q.Off, api.BadNone
				}
				if want < 0 {
					want = less(-want)
				}
				if n, bad, e := mem.Apart(m, p, q); n != want || bad != wrong || e != api.OK {
					t.Fatalf("Apart(%v, %+v, %+v) = %d, %d, %d; want %d, %d", m, p, q, n, bad, e, want, wrong)
				}
			}
		}
	}
}

// P9.2, Apart: what is told, written out.
func TestApartWrittenOut(t *testing.T) {
	for _, c := range []struct {
		p, q api.Scalar
		n    int
		bad  int
	}{
		{pointer(1, 6), pointer(1, 2), 4, api.BadNone},
		{pointer(1, 2), pointer(1, 6), 4294967292, api.BadNone},
		{pointer(1, 0), pointer(1, 32), 4294967264, api.BadNone},
		{pointer(2, 5), pointer(2, 5), 0, api.BadNone},
		{null(), null(), 0, api.BadNone},
		{null(), pointer(1, 0), 0, api.BadPair},
		{pointer(1, 7), null(), 0, api.BadPair},
		{pointer(1, 7), pointer(2, 3), 0, api.BadPair},
	} {
		if n, bad, e := mem.Apart(some(), c.p, c.q); n != c.n || bad != c.bad || e != api.OK {
			t.Errorf("Apart(%+v, %+v) = %d, %d, %d; want %d, %d", c.p, c.q, n, bad, e, c.n, c.bad)
		}
	}
}

// P9.2, Apart: memory and pointers that may not be, on both sides, ahead of BadPair.
func TestApartOfWrong(t *testing.T) {
	refused := func(m []api.Block, p api.Scalar, q api.Scalar) {
		t.Helper()
		if n, bad, e := mem.Apart(m, p, q); n != 0 || bad != api.BadNone || e != api.ErrForm {
			t.Errorf("Apart(%v, %+v, %+v) = %d, %d, %d", m, p, q, n, bad, e)
		}
	}
	for _, p := range notPointers(some()) {
		for _, q := range []api.Scalar{p, null(), pointer(1, 0), pointer(2, 0)} {
			refused(some(), p, q)
			refused(some(), q, p)
		}
	}
	for _, m := range samples.NotMemories() {
		refused(m, null(), null())
		refused(m, pointer(1, 0), pointer(1, 0))
		refused(m, pointer(1, 0), null())
	}
}
