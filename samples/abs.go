package samples

import (
	"math"
	"slices"

	"cellar/api"
)

// MostBlock is the greatest number of a block to which a set may have pointers.
const MostBlock = api.MaxVars + api.MaxNews

// NumberSet is a set of numbers as one of scalars.
func NumberSet(v api.Val) api.Abs {
	return api.Abs{Num: v}
}

// Base is offsets of pointers to a block.
func Base(block int, off api.Val) api.Base {
	return api.Base{Block: block, Off: off}
}

// PointerSet is a set of such.
func PointerSet(l ...api.Base) api.Abs {
	return api.Abs{Ptrs: l}
}

// AbsHas is chapter 15's words on what is a member; s may be of the kind.
func AbsHas(kind int, x api.Abs, s api.Scalar) bool {
	if kind != api.KPtr {
		return Has(x.Num, s.N)
	}
	for _, b := range x.Ptrs {
		if b.Block == s.Block && Has(b.Off, s.Off) {
			return true
		}
	}
	return false
}

// AlikeAbs takes a nil list and an empty one as one.
func AlikeAbs(x api.Abs, y api.Abs) bool {
	return x.Num == y.Num && slices.Equal(x.Ptrs, y.Ptrs)
}

// CloneAbs is the same set, of memory of its own.
func CloneAbs(x api.Abs) api.Abs {
	x.Ptrs = slices.Clone(x.Ptrs)
	return x
}

// AllPointers are null and all pointers that a set may have.
func AllPointers() []api.Scalar {
	l := []api.Scalar{Null()}
	for block := 1; block <= MostBlock; block++ {
		for off := range api.MaxSize + 1 {
			l = append(l, Pointer(block, off))
		}
	}
	return l
}

// offs are sets of offsets, some of them beyond those that a pointer may have: only
// there, or there too.
func offs() []api.Val {
	return []api.Val{
		Row(8, 0, 255), Row(8, 0, api.MaxSize), Row(8, 1, 9), Row(8, 31, 33), Row(8, api.MaxSize, 50),
		Row(8, api.MaxSize+1, 255), Row(8, 40, 50), Just(8, 0), Just(8, 5), Just(8, api.MaxSize), Just(8, api.MaxSize+1),
		Row(8, 30, 5), Row(8, 40, 5), Row(8, 255, 0), Row(8, api.MaxSize, 0), Row(8, api.MaxSize+1, 0), Row(8, 9, 8),
		{Width: 8, High: 255, Free: 252},                  // of four
		{Width: 8, High: 24, Free: 24},                    // 0, 8, 16, 24
		{Width: 8, Low: 4, High: 32, Free: 252},           // 4, 8 .. 32
		{Width: 8, Low: 28, High: 4, Free: 252},           // 28, 32 .., 0, 4
		{Width: 8, Low: 1, High: 255, Free: 224, Bits: 0}, // just 32, and more beyond
		{Width: 8, High: 255, Free: 192, Bits: 7},         // just 7, and more beyond
		{Width: 8, High: 255, Free: 192, Bits: 33},        // only beyond
		{Width: 8, High: 255, Free: 129, Bits: 2},         // 2, 3, and more beyond
		{Width: 8, Low: 128, High: 255, Free: 127, Bits: 128},
	}
}

// Abses are sets of scalars of a kind: without members, single, rows, in many forms;
// of pointers to no block, to one, to some, to all.
func Abses(kind int) []api.Abs {
	if kind == api.KPtr {
		return pointerSets()
	}
	w := Width(kind)
	sets := slices.Concat(Sets(w), Empties(w), Singles(w, 7), Singles(w, 1<<w-1))
	var l []api.Abs
	for i, v := range sets {
		l = append(l, NumberSet(v))
		if i%9 == 0 {
			l = append(l, api.Abs{Num: v, Ptrs: []api.Base{}})
		}
	}
	return l
}

func pointerSets() []api.Abs {
	l := []api.Abs{{}, {Ptrs: []api.Base{}}}
	for _, zero := range Singles(8, 0) {
		l = append(l, PointerSet(Base(0, zero)), PointerSet(Base(0, zero), Base(MostBlock, zero)))
	}
	all := offs()
	for i, v := range all {
		other := all[(i*7+3)%len(all)]
		l = append(l, PointerSet(Base(1, v)), PointerSet(Base(MostBlock, v)), PointerSet(Base(0, Row(8, 0, 0)), Base(2, v)))
		l = append(l, PointerSet(Base(1, v), Base(2, other)), PointerSet(Base(1, other), Base(3, v), Base(5, other)))
		row := []api.Base{Base(0, Just(8, 0))}
		for block := 1; block <= MostBlock; block++ {
			row = append(row, Base(block, all[(i+block*block)%len(all)]))
		}
		l = append(l, PointerSet(row...), PointerSet(row[1:]...))
	}
	for _, v := range Empties(8) {
		l = append(l, PointerSet(Base(1, v)), PointerSet(Base(1, v), Base(4, Just(8, 8))), PointerSet(Base(2, v), Base(3, v), Base(6, v)))
	}
	return l
}

// SingleAbses are sets of a kind with s as the only member, in several forms.
func SingleAbses(kind int, s api.Scalar) []api.Abs {
	var l []api.Abs
	if kind != api.KPtr {
		for _, v := range Singles(Width(kind), s.N) {
			l = append(l, NumberSet(v))
		}
		return l
	}
	forms := Singles(8, s.Off)
	if s.Block > 0 {
		forms = append(forms, api.Val{Width: 8, High: 255, Free: 192, Bits: s.Off})
	}
	if s.Off == api.MaxSize {
		forms = append(forms, Row(8, s.Off, 200))
	}
	for _, v := range forms {
		l = append(l, PointerSet(Base(s.Block, v)))
		if s.Block > 1 {
			l = append(l, PointerSet(Base(1, Row(8, 33, 99)), Base(s.Block, v)))
		}
		if s.Block < MostBlock {
			l = append(l, PointerSet(Base(s.Block, v), Base(MostBlock, None(8))))
		}
	}
	return l
}

// EmptyAbses are sets of a kind without members.
func EmptyAbses(kind int) []api.Abs {
	var l []api.Abs
	if kind != api.KPtr {
		for _, v := range Empties(Width(kind)) {
			l = append(l, NumberSet(v))
		}
		return l
	}
	l = append(l, api.Abs{}, PointerSet(Base(1, Row(8, api.MaxSize+1, 255))), PointerSet(Base(2, Just(8, 255)), Base(MostBlock, Row(8, 40, 41))))
	for _, v := range Empties(8) {
		l = append(l, PointerSet(Base(1, v)), PointerSet(Base(3, v), Base(MostBlock, v)))
	}
	return l
}

// NotAbses are sets that may not be of a kind, each but for one thing.
func NotAbses(kind int) []api.Abs {
	if kind == api.KPtr {
		return notPointers()
	}
	w := Width(kind)
	var l []api.Abs
	for _, v := range Strange(w) {
		l = append(l, NumberSet(v))
	}
	for _, other := range []int{8, 16, 32} {
		if other != w {
			l = append(l, NumberSet(Just(other, 1)), NumberSet(None(other)), NumberSet(Row(other, 0, 255)))
		}
	}
	for _, b := range []api.Base{{}, Base(0, Just(8, 0)), Base(1, Row(8, 0, 4)), Base(1, None(8)), Base(-1, Just(w, 0))} {
		l = append(l, api.Abs{Num: Row(w, 1, 5), Ptrs: []api.Base{b}}, api.Abs{Num: None(w), Ptrs: []api.Base{b, b}})
	}
	return l
}

func notPointers() []api.Abs {
	null, one, three := Base(0, Just(8, 0)), Base(1, Row(8, 0, 4)), Base(3, None(8))
	l := []api.Abs{PointerSet(one, null), PointerSet(null, three, one), PointerSet(null, null), PointerSet(null, one, one), PointerSet(one, three, three)}
	for _, v := range []api.Val{Just(8, 0), None(8), Row(32, 0, 9), {Width: 8}, {Width: 64}, {None: true}, {Low: 1}, {High: 1}, {Free: 1}, {Bits: 1}} {
		l = append(l, api.Abs{Num: v}, api.Abs{Num: v, Ptrs: []api.Base{null, one}})
	}
	for _, n := range []int{-1, MostBlock + 1, MostBlock + 2, api.MaxSize, math.MaxInt, math.MinInt} {
		l = append(l, PointerSet(Base(n, Just(8, 0))), PointerSet(one, Base(n, Just(8, 0))), PointerSet(Base(n, Just(8, 0)), three))
	}
	strange := append(Strange(8), Just(16, 0), Just(32, 1), None(16), None(32), Row(16, 0, 9))
	for _, v := range strange {
		l = append(l, PointerSet(Base(0, v)), PointerSet(Base(1, v)), PointerSet(null, one, Base(MostBlock, v)), PointerSet(null, Base(1, v), three))
	}
	// Null has the offset 0, and no other one.
	for _, v := range append(Empties(8), Row(8, 0, 1), Just(8, 1), Just(8, api.MaxSize), Just(8, 255), Row(8, 0, 255), Row(8, 255, 0), api.Val{Width: 8, High: 255, Free: 128}, api.Val{Width: 8, High: 255, Free: 64}, Row(8, 1, 0)) {
		l = append(l, PointerSet(Base(0, v)), PointerSet(Base(0, v), one))
	}
	var row []api.Base
	for block := range MostBlock + 2 {
		row = append(row, Base(block, Just(8, 0)))
	}
	return append(l, PointerSet(row...), PointerSet(slices.Repeat(row, 1000)...))
}

// SomeAbs is a set of a kind where number, which tells a new one each time, says.
func SomeAbs(number func() int, kind int) api.Abs {
	if kind != api.KPtr {
		return NumberSet(Some(number, Width(kind)))
	}
	upTo := func(most int) int { return int(uint(number()) % uint(most+1)) }
	var l []api.Base
	dense := upTo(2)
	if upTo(3) == 0 {
		zeros := Singles(8, 0)
		l = append(l, Base(0, zeros[upTo(len(zeros)-1)]))
	}
	for block := 1; block <= MostBlock; block++ {
		if upTo(2) > dense {
			continue
		}
		v := Some(number, 8)
		switch upTo(4) {
		case 0:
			v = Just(8, upTo(api.MaxSize))
		case 1:
			v = Row(8, upTo(api.MaxSize+3), upTo(api.MaxSize+3))
		case 2:
			step := 1 << upTo(3)
			v = api.Val{Width: 8, Low: upTo(api.MaxSize), High: upTo(api.MaxSize + 3), Free: 255 &^ (step - 1), Bits: upTo(step - 1)}
		}
		l = append(l, Base(block, v))
	}
	return PointerSet(l...)
}

// ManyAbses are Abses of a kind, and so many more where number says.
func ManyAbses(number func() int, kind int, more int) []api.Abs {
	l := Abses(kind)
	for range more {
		l = append(l, SomeAbs(number, kind))
	}
	return l
}

// AbsMembers are all members of a set of pointers, or of numbers of 8 or 16 bits.
func AbsMembers(kind int, x api.Abs) []api.Scalar {
	if kind != api.KPtr {
		return scalars(Members(x.Num))
	}
	var l []api.Scalar
	for _, s := range AllPointers() {
		if AbsHas(kind, x, s) {
			l = append(l, s)
		}
	}
	return l
}

// SampleAbs is members of a set of a kind: of pointers and of 8 bits all of them, else
// some where number says.
func SampleAbs(number func() int, kind int, x api.Abs) []api.Scalar {
	if kind == api.KPtr || Width(kind) == 8 {
		return AbsMembers(kind, x)
	}
	return scalars(Sample(number, x.Num))
}

func scalars(numbers []int) []api.Scalar {
	var l []api.Scalar
	for _, n := range numbers {
		l = append(l, Number(n))
	}
	return l
}
