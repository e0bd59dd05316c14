package val

import (
	"cmp"
	"math/bits"
	"slices"
	"sync/atomic"

	"cellar/api"
)

// layout is a set of numbers: those of a pattern in some spans. The spans rise
// and lie apart, their ends are members, and no bit is free that all members
// have alike.
type layout struct {
	pattern
	parts   []span
	members atomic.Int64
}

// lay lays out the numbers of a pattern in spans that rise and lie apart.
func lay(p pattern, parts []span) *layout {
	l := &layout{pattern: p}
	for _, s := range parts {
		if t, some := p.trim(s); some {
			l.parts = append(l.parts, t)
			l.members.Add(int64(p.rank(t.high) - p.rank(t.low) + 1))
		}
	}
	l.narrow()
	return l
}

// narrow fixes the bits ahead of the first one by which the least and the
// greatest member differ: those behind it run through all that is free.
func (l *layout) narrow() {
	if len(l.parts) == 0 {
		return
	}
	least, greatest := l.parts[0].low, l.parts[len(l.parts)-1].high
	l.free &= 1<<bits.Len(uint(least^greatest)) - 1
	l.bits = least &^ l.free
}

func (l *layout) count() int {
	return int(l.members.Load())
}

// next is the least member that is not below n.
func (l *layout) next(n int) (int, bool) {
	for _, s := range l.parts {
		if n <= s.high {
			// There is one: the span's end.
			return l.from(max(n, s.low))
		}
	}
	return 0, false
}

// join is of the numbers of both, and of what their bits have together. One that
// has all of the other is told as it is: a gap of its own may lie between two
// members of the other, and would be filled by that one's span.
func join(a *layout, b *layout) *layout {
	if within(a, b) {
		return b
	}
	if within(b, a) {
		return a
	}
	free := a.free | b.free | (a.bits ^ b.bits)
	p := pattern{width: a.width, free: free, bits: a.bits &^ free}
	return lay(p, merge(a.parts, b.parts))
}

// merge is what lies in the spans of a or of b: spans that rise and lie apart.
func merge(a []span, b []span) []span {
	all := slices.Concat(a, b)
	slices.SortFunc(all, func(s span, t span) int { return cmp.Compare(s.low, t.low) })
	var merged []span
	for _, s := range all {
		last := len(merged) - 1
		if last < 0 || s.low > merged[last].high {
			merged = append(merged, s)
			continue
		}
		merged[last].high = max(merged[last].high, s.high)
	}
	return merged
}

// meet is just what both have.
func meet(a *layout, b *layout) *layout {
	p := pattern{width: a.width, free: a.free & b.free, bits: a.bits | b.bits}
	if (a.bits^b.bits)&a.fixed()&b.fixed() != 0 {
		return lay(p, nil)
	}
	var both []span
	for _, s := range a.parts {
		for _, t := range b.parts {
			if low, high := max(s.low, t.low), min(s.high, t.high); low <= high {
				both = append(both, span{low, high})
			}
		}
	}
	return lay(p, both)
}

func within(a *layout, b *layout) bool {
	return meet(a, b).count() == a.count()
}

// tell is a set with all members of l. It goes round, and leaves out one of the
// gaps between the spans, or behind the last of them: that of the most numbers,
// of those for which the set fits.
func (l *layout) tell(fits func(api.Val) bool) api.Val {
	best, most := none(l.width), -1
	for i, s := range l.parts {
		// Ahead of the first one is the last one, over the end.
		ahead := l.parts[(i+len(l.parts)-1)%len(l.parts)]
		v := api.Val{Width: l.width, Low: s.low, High: ahead.high, Free: l.free, Bits: l.bits}
		if gap := l.between(ahead.high, s.low); gap > most && fits(v) {
			best, most = v, gap
		}
	}
	return best
}
