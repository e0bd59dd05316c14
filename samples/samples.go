// Package samples: machines, kinds, sets of numbers and of scalars, scalars, bytes, memories,
// words, programs' texts, programs, scripts and states that the packages' tests hand in, and
// what the chapters say of them, told without the packages that are tested.
package samples

import (
	"math"
	"slices"
	"sync"

	"cellar/api"
)

// Kinds are the kinds of numbers.
func Kinds() []int {
	return []int{api.KU8, api.KI8, api.KU16, api.KI16, api.KU32, api.KI32}
}

// NotKinds are no kinds of numbers.
func NotKinds() []int {
	return []int{api.KNone, api.KPtr, api.KArray, api.KStruct, api.KUnion, api.KPart, -1, 99, math.MaxInt, math.MinInt}
}

// Machines are those that may be.
func Machines() []api.Abi {
	return []api.Abi{{Ptr: 2}, {Ptr: 4}, {Big: true, Ptr: 2}, {Big: true, Ptr: 4}}
}

// NotMachines are machines that may not be.
func NotMachines() []api.Abi {
	var l []api.Abi
	for _, n := range []int{0, 1, 3, 5, 8, -2, -4, math.MaxInt, math.MinInt} {
		l = append(l, api.Abi{Ptr: n}, api.Abi{Big: true, Ptr: n})
	}
	return l
}

// Width is that of a kind of numbers.
func Width(kind int) int {
	switch kind {
	case api.KU8, api.KI8:
		return 8
	case api.KU16, api.KI16:
		return 16
	}
	return 32
}

// Signed is whether a kind of numbers is.
func Signed(kind int) bool {
	return kind == api.KI8 || kind == api.KI16 || kind == api.KI32
}

// Just is a set of one number.
func Just(w int, n int) api.Val {
	return api.Val{Width: w, Low: n, High: n, Bits: n}
}

// Row is a set of the numbers from low on to high, maybe over the end.
func Row(w int, low int, high int) api.Val {
	return api.Val{Width: w, Low: low, High: high, Free: 1<<w - 1}
}

// None is an empty set.
func None(w int) api.Val {
	return api.Val{Width: w, None: true}
}

// Has is chapter 3's words on what is a member.
func Has(v api.Val, n int) bool {
	if v.None {
		return false
	}
	round := v.Low <= n && n <= v.High
	if v.Low > v.High {
		round = v.Low <= n || n <= v.High
	}
	return round && n&^v.Free == v.Bits
}

// Members are all members of a set of 8 or 16 bits.
func Members(v api.Val) []int {
	var l []int
	for n := range 1 << v.Width {
		if Has(v, n) {
			l = append(l, n)
		}
	}
	return l
}

// Singles are sets of a width with n as the only member, in several forms.
func Singles(w int, n int) []api.Val {
	top := 1<<w - 1
	return []api.Val{Just(w, n), Row(w, n, n), {Width: w, High: top, Bits: n}, {Width: w, Low: n &^ 1, High: n | 1, Free: top - 1, Bits: n & 1}}
}

// Empties are sets of a width without members: one may have none without None.
func Empties(w int) []api.Val {
	return []api.Val{None(w), {Width: w, Low: 1, High: 5}, {Width: w, Low: 10, High: 12, Free: 1<<w - 16}}
}

// Sets are of a width: none, single, rows, over the end, patterns, patterns that
// miss their row (or have it but for one).
func Sets(w int) []api.Val {
	top, half := 1<<w-1, 1<<(w-1)
	l := []api.Val{None(w), Row(w, 0, top), Row(w, 6, 4), Row(w, half, half-1), Row(w, half+1, half-1)}
	for _, n := range []int{0, 1, 2, 7, 8, w - 1, w, half - 1, half, half + 1, top - 1, top} {
		l = append(l, Just(w, n))
	}
	for _, ends := range [][2]int{{0, 1}, {0, 9}, {1, 9}, {3, 5}, {2, 40}, {half - 2, half + 2}, {half - 9, half - 1}, {half, half + 9}, {top - 9, top}, {top - 2, 3}, {top - 20, 30}, {1, top}, {0, w - 1}, {1, w + 3}, {w, w + 9}, {100, 90}, {77, 77}} {
		l = append(l, Row(w, ends[0], ends[1]))
	}
	patterns := []api.Val{
		{High: top, Free: top - 1},                          // even
		{High: top, Free: top - 1, Bits: 1},                 // uneven
		{High: top, Free: top - 3},                          // of four
		{Low: 8, High: 40, Free: top - 7},                   // 8, 16 ..
		{Low: top - 15, High: 16, Free: top - 3, Bits: 2},   // over the end
		{High: top, Free: half | 1, Bits: 6},                // four of them
		{High: top, Free: half | 1 | 4, Bits: 2},            // eight
		{High: top, Free: half - 1, Bits: half},             // below 0
		{High: top, Free: half - 1},                         // not below 0
		{Low: 10, High: 12, Free: top &^ 15},                // nothing
		{Low: 10, High: 17, Free: top &^ 15},                // just 16
		{Low: half + 3, High: half - 3, Free: 2, Bits: 1},   // two
		{Low: 1, High: top, Bits: 0},                        // nothing
		{Low: half - 1, High: half + 1, Free: top - 1},      // just half
		{Low: 20, High: top - 20, Free: top &^ 12, Bits: 4}, // here and there
	}
	for _, v := range patterns {
		v.Width = w
		l = append(l, v)
	}
	return l
}

// Strange are sets that may not be, or not of this width.
func Strange(w int) []api.Val {
	top := 1<<w - 1
	l := []api.Val{
		{},
		{Width: w, High: top, Free: 1, Bits: 1},
		{Width: w, None: true, Low: 1},
		{Width: w, None: true, Free: top},
		{Width: w, High: -1, Free: top},
		{Width: w, Low: top + 1, Free: top},
		{Width: w, High: top, Free: top + 1},
		{Width: w, High: top, Bits: math.MinInt},
	}
	for _, other := range []int{0, 1, 7, 8, 16, 24, 32, 64, -w, math.MaxInt, math.MinInt} {
		if other != w {
			l = append(l, api.Val{Width: other}, None(other))
		}
	}
	return l
}

// Some is a set of a width whose fields stand where number, which tells a new one
// each time, says; often it is small.
func Some(number func() int, w int) api.Val {
	top := 1<<w - 1
	upTo := func(most int) int { return int(uint(number()) % uint(most+1)) }
	wide := func() int { return upTo(top >> upTo(w-1)) }
	low, free := wide(), wide()|wide()
	switch upTo(5) {
	case 0:
		return Just(w, low)
	case 1:
		return api.Val{Width: w, Low: low, High: wide(), Free: free, Bits: wide() &^ free}
	case 2:
		return Row(w, low, wide())
	case 3:
		return Row(w, low, (low+upTo(23))&top)
	case 4:
		return Row(w, top-wide(), wide())
	}
	return api.Val{Width: w, High: top, Free: free, Bits: wide() &^ free}
}

// Many are Sets of a width, and so many more where number says.
func Many(number func() int, w int, more int) []api.Val {
	l := Sets(w)
	for range more {
		l = append(l, Some(number, w))
	}
	return l
}

// Sample is members of a set of whatever width: the first and the last ones, and
// some more where number says.
func Sample(number func() int, v api.Val) []int {
	top, half := 1<<v.Width-1, 1<<(v.Width-1)
	near := []int{0, 1, 2, 3, v.Width - 1, v.Width, half - 1, half, half + 1, top - 1, top}
	for d := -1; d <= 2; d++ {
		near = append(near, (v.Low+d)&top, (v.High-d)&top)
	}
	for range 8 {
		near = append(near, number()&top, (v.Low+number()&7)&top)
	}
	var l []int
	for _, n := range near {
		for _, m := range []int{n, n&v.Free | v.Bits} {
			if Has(v, m) {
				l = append(l, m)
			}
		}
	}
	slices.Sort(l)
	return slices.Compact(l)
}

// Together does it often, in several goroutines at once.
func Together(do func()) {
	var each sync.WaitGroup
	for range 16 {
		each.Add(1)
		go func() {
			defer each.Done()
			for range 50 {
				do()
			}
		}()
	}
	each.Wait()
}
