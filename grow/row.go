package grow

import (
	"cellar/api"
	"cellar/val"
)

// row is numbers of a width from low on to high, over the end, if high is below low.
type row struct {
	low  int
	high int
	top  int
}

func all(top int) row {
	return row{0, top, top}
}

// rowOf is a short row that has all members of v, which has one.
func rowOf(v api.Val) row {
	v, _ = val.Meet(v, v) // the same members, but its ends may lie nearer
	round := row{v.Low, v.High, top(v)}
	// By its bits it may be shorter, if the other one goes over the end.
	if short := (row{v.Bits, v.Bits | v.Free, top(v)}); short.length() < round.length() {
		return short
	}
	return round
}

// around is the shortest row that has two.
func around(r row, s row) row {
	shortest := all(r.top)
	for _, t := range []row{r, s, {r.low, s.high, r.top}, {s.low, r.high, r.top}} {
		if t.has(r) && t.has(s) && t.length() < shortest.length() {
			shortest = t
		}
	}
	return shortest
}

// length is how far it is from low to high.
func (r row) length() int {
	return (r.high - r.low) & r.top
}

func (r row) has(s row) bool {
	return (s.low-r.low)&r.top+s.length() <= r.length()
}

// beyond is the number so far beyond the first one that r has not.
func (r row) beyond(far int) int {
	return (r.high + 1 + far) & r.top
}
