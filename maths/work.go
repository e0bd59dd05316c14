package maths

import (
	"sync/atomic"

	"cellar/alu"
	"cellar/api"
	"cellar/val"
)

// work is that of one call: an operator of numbers of a kind, and what was told.
type work struct {
	numbers
	op   int
	told api.Val
	bads atomic.Int32 // the classes that were met: 1 shifted by each
}

func (w *work) goesWrong(class int) {
	w.bads.Or(1 << class)
}

// classes are those that were met, rising.
func (w *work) classes() []int {
	var l []int
	for class := api.BadNone + 1; class <= api.BadFree; class++ {
		if w.bads.Load()&(1<<class) != 0 {
			l = append(l, class)
		}
	}
	return l
}

// add tells the numbers from low up to high that are of a pattern, each as the
// number of the width that it is. How far low and high lie apart counts alone:
// both may have gone over the end of int.
func (w *work) add(low int, high int, p pattern) {
	v, _ := val.All(w.told.Width)
	top := v.High
	if uint(high)-uint(low) < uint(top) {
		v.Low, v.High = low&top, high&top
	}
	v.Free, v.Bits = p.free&top, p.bits&top
	w.told, _ = val.Join(w.told, v)
}

// fit tells the numbers of the views from low up to high that are of a pattern.
// Of a signed kind what is beyond its views goes wrong: so low and high must come
// of some members.
func (w *work) fit(low int, high int, p pattern) {
	if !w.signed {
		w.add(low, high, p)
		return
	}
	if low < w.least() || high > w.greatest() {
		w.goesWrong(api.BadOver)
	}
	low, high = max(low, w.least()), min(high, w.greatest())
	if low <= high {
		w.add(low, high, p)
	}
}

// truth tells 1, 0, or both.
func (w *work) truth(yes bool, no bool) {
	if yes {
		w.add(1, 1, except(1, 0))
	}
	if no {
		w.add(0, 0, except(0, 0))
	}
}

func (w *work) one(x *operand) {
	switch w.op {
	case api.ENeg:
		for _, p := range x.pieces() {
			w.fit(-p.high, -p.low, except(0, 0).minus(p.pattern))
		}
	case api.ENot:
		for _, p := range x.pieces() {
			w.add(^p.high, ^p.low, p.not())
		}
	case api.EZero:
		w.truth(x.has(0), !x.just(0))
	}
}

func (w *work) two(x *operand, y *operand) {
	switch w.op {
	case api.EEq:
		w.equal(x, y)
		return
	case api.ELess:
		w.less(x, y)
		return
	}
	seconds := w.seconds(y)
	for _, p := range x.pieces() {
		for _, q := range seconds {
			w.pair(p, q)
		}
	}
}

func (w *work) equal(x *operand, y *operand) {
	both, _ := val.Meet(x.set, y.set)
	none, _ := val.Empty(both)
	is, n, _ := val.Single(x.set)
	w.truth(!none, !is || !y.just(n))
}

func (w *work) less(x *operand, y *operand) {
	least, greatest := x.ends()
	from, to := y.ends()
	w.truth(least < to, greatest >= from)
}

// seconds are the second operand's pieces, but those by which nothing can be
// shifted; by what can be all is shifted one by one.
func (w *work) seconds(y *operand) []piece {
	if w.op != api.EShl && w.op != api.EShr {
		return y.pieces()
	}
	// Views below 0 are of numbers far above the width.
	if len(y.members(w.width, w.top(), 1)) > 0 {
		w.goesWrong(api.BadShift)
	}
	return y.oneByOne(y.members(0, w.width-1, w.width))
}

func (w *work) pair(p piece, q piece) {
	if p.single() && q.single() {
		w.alone(w.number(p.low), w.number(q.low))
		return
	}
	switch w.op {
	case api.EAdd:
		w.fit(p.low+q.low, p.high+q.high, p.plus(q.pattern))
	case api.ESub:
		w.fit(p.low-q.high, p.high-q.low, p.minus(q.pattern))
	case api.EMul:
		w.multiply(p, q)
	case api.EDiv, api.ERem:
		w.divide(p, q)
	case api.EAnd, api.EOr, api.EXor:
		w.mix(p, q)
	case api.EShl:
		w.add(p.low<<q.low, p.high<<q.low, p.up(q.low))
	case api.EShr:
		w.add(p.low>>q.low, p.high>>q.low, p.down(q.low))
	}
}

// alone tells of two numbers what alu tells.
func (w *work) alone(a int, b int) {
	n, bad, _ := alu.Two(w.op, w.kind, a, b)
	if bad != api.BadNone {
		w.goesWrong(bad)
		return
	}
	w.add(n, n, except(n, 0))
}

// multiply tells of unsigned products that go over the end of int how far they
// lie apart, too: less than that end round.
func (w *work) multiply(p piece, q piece) {
	low, high := p.low*q.low, p.high*q.high
	if w.signed {
		low, high = corners(p, q, product)
	}
	w.fit(low, high, p.times(q.pattern))
}

func (w *work) divide(p piece, q piece) {
	if q.high == 0 {
		w.goesWrong(api.BadZero)
		return
	}
	low, high := corners(p, q, quotient)
	if w.op == api.EDiv {
		w.fit(low, high, anything())
		return
	}
	if w.signed && high > w.greatest() {
		w.goesWrong(api.BadOver)
	}
	w.remain(p, q, low, high)
}

// remain tells what is left of p's by q's, when the quotients are from low up to
// high. A divisor that ends with zeros leaves as many of the lowest bits alone.
func (w *work) remain(p piece, q piece, low int, high int) {
	if low == 0 && high == 0 {
		w.add(p.low, p.high, p.pattern)
		return
	}
	kept := p.lowest(q.zeros())
	if low == high && q.single() {
		w.add(p.low%q.low, p.high%q.low, kept)
		return
	}
	most := q.size() - 1
	w.add(max(min(p.low, 0), -most), min(max(p.high, 0), most), kept)
}

func (w *work) mix(p piece, q piece) {
	low, high := 0, w.top()
	switch w.op {
	case api.EAnd:
		w.add(low, min(w.number(p.high), w.number(q.high)), p.and(q.pattern))
	case api.EOr:
		w.add(max(w.number(p.low), w.number(q.low)), high, p.or(q.pattern))
	case api.EXor:
		w.add(low, high, p.xor(q.pattern))
	}
}

// corners are the least and the greatest of what f tells of two pieces; f rises
// or falls all the way with each of its two, as the other one stays.
func corners(p piece, q piece, f func(int, int) int) (least int, greatest int) {
	a, b := f(p.low, q.low), f(p.low, q.high)
	c, d := f(p.high, q.low), f(p.high, q.high)
	return min(a, b, c, d), max(a, b, c, d)
}

func product(u int, v int) int {
	return u * v
}

func quotient(u int, v int) int {
	return u / v
}
