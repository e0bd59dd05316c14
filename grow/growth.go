package grow

import (
	"cmp"
	"slices"
	"sync"
	"sync/atomic"

	"cellar/api"
	"cellar/val"
)

// growth is a set that is widened step by step. Why it ends: each step leads to a
// greater one of these numbers, of which the last is MaxGrow. 0: it has no member.
// 1: it has a single one, or bits out of the lowest are fixed, or not one behind the
// other. Else 2, and 1 more for each of these: an end that stands at a mark (2 ends);
// a stretch between two marks that the row comes to, beside its first one (5, of 6
// marks); one of the lowest bits that is not fixed (3).
type growth struct {
	now   api.Val
	steps atomic.Int64

	made  sync.Once // no mark is asked for until an end moves
	marks []int
}

// lowest are the bits that may stay fixed behind a step: they tell where structs of
// two words stand in a row, and that their scalars stand at even places.
const lowest = 7

// take widens what there is by v.
func (g *growth) take(v api.Val) api.Errno {
	in, e := val.In(v, g.now)
	if e != api.OK || in {
		return e
	}
	if next := g.beyond(v); next != g.now {
		g.steps.Add(1)
		g.now = next
	}
	return api.OK
}

// beyond is a set that has all members of what there is, and of v, which has a member.
func (g *growth) beyond(v api.Val) api.Val {
	if empty, _ := val.Empty(g.now); empty {
		return v
	}
	both, _ := val.Join(g.now, v)
	if single, _, _ := val.Single(g.now); single || g.now != loosened(g.now) {
		return over(around(rowOf(g.now), rowOf(v)), both)
	}
	return over(g.ends(v), both)
}

// over is a set of all in r that v's bits leave, loosened.
func over(r row, v api.Val) api.Val {
	v.Low, v.High = r.low, r.high
	return loosened(v)
}

// loosened is v, but of its bits only the lowest stay fixed, and of them those below
// the first free one: of the other ones the row says enough.
func loosened(v api.Val) api.Val {
	below := v.Free&-v.Free - 1
	v.Free = top(v) &^ (below & lowest)
	v.Bits &^= v.Free
	return v
}

// ends are a row that has what there is, and v's members. An end that need not move
// stays; else it moves on to a mark. Beyond the ends the greatest part that v has no
// member of is left out.
func (g *growth) ends(v api.Val) row {
	now := row{g.now.Low, g.now.High, top(g.now)}
	stops := g.stops(now)
	begin, from, to := 0, 0, 0
	for i, stop := range stops[1:] {
		if last := stops[i]; comes(v, now.beyond(last), stop-last) {
			begin = stop
		} else if stop-begin > to-from {
			from, to = begin, stop
		}
	}
	if from == to {
		return all(now.top)
	}
	return row{now.beyond(to), now.beyond(from - 1), now.top}
}

// stops are how far beyond now its ends may come to stand: where a mark is, where the
// high one stands, and, at last, where the low one does.
func (g *growth) stops(now row) []int {
	g.made.Do(g.makeMarks)
	last := now.top - now.length()
	stops := []int{0, last}
	for _, mark := range g.marks {
		if far := (mark - now.beyond(0)) & now.top; far < last {
			stops = append(stops, far)
		}
	}
	slices.SortFunc(stops, cmp.Compare[int])
	return slices.Compact(stops)
}

// makeMarks sets marks where numbers begin and a signed one's sign changes, and where
// small ones end, as places in a block are, and how often a short loop is done.
func (g *growth) makeMarks() {
	half := 1 << (g.now.Width - 1)
	g.marks = []int{0, api.MaxArray/2 + 1, api.MaxArray + 1, api.MaxSize + 1, half, 2*half - api.MaxSize}
}

// comes is whether v has one of so many numbers from n on. No stretch between stops
// goes over the end: there is a mark.
func comes(v api.Val, n int, many int) bool {
	m, e := val.Next(v, n)
	return e == api.OK && m-n < many
}

func top(v api.Val) int {
	return 1<<v.Width - 1
}
