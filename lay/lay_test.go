package lay_test

import (
	"math"
	"slices"
	"strings"
	"testing"

	"cellar/api"
	"cellar/lay"
	"cellar/samples"
)

// The face: each line stops compiling if a signature changes.
var (
	_ func(api.Abi, []api.Type) api.Errno                          = lay.Check
	_ func(api.Abi, []api.Type, int) (int, api.Errno)              = lay.Size
	_ func(api.Abi, []api.Type, int) (int, api.Errno)              = lay.Align
	_ func(api.Abi, []api.Type, int, string) (int, int, api.Errno) = lay.Field
	_ func(api.Abi, []api.Type, int, int) (int, api.Errno)         = lay.Item
	_ func(api.Abi, []api.Type, int) ([]api.Token, api.Errno)      = lay.Scalars
)

func scalar(kind int) api.Type {
	return api.Type{Kind: kind}
}

func array(n int, of int) api.Type {
	return api.Type{Kind: api.KArray, N: n, Of: of}
}

// fields is a struct or union of parts, whose names are a, b and on.
func fields(kind int, parts ...int) api.Type {
	t := api.Type{Kind: kind, Parts: parts}
	for i := range parts {
		t.Names = append(t.Names, string(rune('a'+i)))
	}
	return t
}

func structOf(parts ...int) api.Type {
	return fields(api.KStruct, parts...)
}

func unionOf(parts ...int) api.Type {
	return fields(api.KUnion, parts...)
}

// named is a struct or union of as many parts of type 0 as there are names.
func named(kind int, names ...string) api.Type {
	return api.Type{Kind: kind, Names: names, Parts: make([]int, len(names))}
}

// scalars are types: each kind of scalars, at the place that is one less than it.
func scalars(more ...api.Type) []api.Type {
	var l []api.Type
	for kind := api.KU8; kind <= api.KPtr; kind++ {
		l = append(l, scalar(kind))
	}
	return append(l, more...)
}

// Places of scalars' types.
const (
	u8  = api.KU8 - 1
	i8  = api.KI8 - 1
	u16 = api.KU16 - 1
	i16 = api.KI16 - 1
	u32 = api.KU32 - 1
	i32 = api.KI32 - 1
	ptr = api.KPtr - 1
	own = api.KPtr // the first one behind them
)

// someInts are places and numbers of which most are nowhere.
func someInts() []int {
	return []int{0, 1, -1, 6, 7, 8, 15, 16, 17, 30, 31, math.MaxInt, math.MinInt}
}

// refused checks that each call tells ErrForm, whatever else is wrong.
func refused(t *testing.T, a api.Abi, l []api.Type) {
	t.Helper()
	if e := lay.Check(a, l); e != api.ErrForm {
		t.Errorf("Check(%v, %+v) = %d", a, l, e)
	}
	for _, i := range someInts() {
		if n, e := lay.Size(a, l, i); n != 0 || e != api.ErrForm {
			t.Errorf("Size(%v, %+v, %d) = %d, %d", a, l, i, n, e)
		}
		if n, e := lay.Align(a, l, i); n != 0 || e != api.ErrForm {
			t.Errorf("Align(%v, %+v, %d) = %d, %d", a, l, i, n, e)
		}
		if n, of, e := lay.Field(a, l, i, "a"); n != 0 || of != 0 || e != api.ErrForm {
			t.Errorf("Field(%v, %+v, %d) = %d, %d, %d", a, l, i, n, of, e)
		}
		if n, e := lay.Item(a, l, i, 0); n != 0 || e != api.ErrForm {
			t.Errorf("Item(%v, %+v, %d) = %d, %d", a, l, i, n, e)
		}
		if found, e := lay.Scalars(a, l, i); found != nil || e != api.ErrForm {
			t.Errorf("Scalars(%v, %+v, %d) = %v, %d", a, l, i, found, e)
		}
	}
}

// accepted checks that types may be, on all machines.
func accepted(t *testing.T, l []api.Type) {
	t.Helper()
	for _, a := range samples.Machines() {
		if e := lay.Check(a, l); e != api.OK {
			t.Errorf("Check(%v, %+v) = %d", a, l, e)
		}
	}
}

// P7.1, Check: the machine, be it of no types.
func TestMachines(t *testing.T) {
	for _, a := range samples.NotMachines() {
		refused(t, a, nil)
		refused(t, a, scalars(structOf(u8, u16), array(2, u8)))
	}
	accepted(t, nil)
	accepted(t, []api.Type{})
}

// P7.1, Check: kinds of types.
func TestKinds(t *testing.T) {
	accepted(t, scalars())
	a := api.Abi{Ptr: 4}
	for _, kind := range []int{api.KNone, api.KPart, api.KPart + 1, -1, 99, math.MaxInt, math.MinInt} {
		refused(t, a, []api.Type{scalar(kind)})
		refused(t, a, scalars(scalar(kind)))
		refused(t, a, scalars(fields(kind, u8)))
		refused(t, a, scalars(array(2, u8), api.Type{Kind: kind, N: 2}))
	}
}

// P7.1, Check: of each kind the other ones' fields are empty.
func TestOthersFields(t *testing.T) {
	a := api.Abi{Ptr: 2}
	for kind := api.KU8; kind <= api.KPtr; kind++ {
		for _, n := range []int{1, -1, 2, math.MaxInt, math.MinInt} {
			refused(t, a, scalars(api.Type{Kind: kind, N: n}))
			refused(t, a, scalars(api.Type{Kind: kind, Of: n}))
		}
		refused(t, a, scalars(fields(kind, u8)))
		refused(t, a, scalars(api.Type{Kind: kind, Names: []string{"a"}}))
		refused(t, a, scalars(api.Type{Kind: kind, Parts: []int{0}}))
	}
	refused(t, a, scalars(api.Type{Kind: api.KArray, N: 1, Names: []string{"a"}}))
	refused(t, a, scalars(api.Type{Kind: api.KArray, N: 1, Parts: []int{0}}))
	refused(t, a, scalars(api.Type{Kind: api.KArray, N: 1, Names: []string{"a"}, Parts: []int{0}}))
	for _, kind := range []int{api.KStruct, api.KUnion} {
		for _, n := range []int{1, -1, math.MaxInt, math.MinInt} {
			x := fields(kind, u8)
			x.N = n
			refused(t, a, scalars(x))
			x.N, x.Of = 0, n
			refused(t, a, scalars(x))
		}
	}
}

// R2: a nil list and an empty one are one.
func TestEmptyLists(t *testing.T) {
	for _, x := range []api.Type{scalar(api.KU8), array(1, 0)} {
		x.Names, x.Parts = []string{}, []int{}
		accepted(t, scalars(x))
	}
}

// P7.1, Check: places ahead alone.
func TestPlaces(t *testing.T) {
	for _, i := range []int{own, own + 1, own + 2, api.MaxTypes, -1, -own, math.MaxInt, math.MinInt} {
		for _, x := range []api.Type{array(1, i), structOf(i), unionOf(i), structOf(u8, i, u8), unionOf(u8, u8, i)} {
			refused(t, api.Abi{Ptr: 4}, scalars(x, scalar(api.KU8)))
		}
	}
	for i := range own {
		accepted(t, scalars(array(1, i), structOf(i, i), unionOf(i, i)))
	}
}

// P7.1, Check: how many types there are.
func TestManyTypes(t *testing.T) {
	l := []api.Type{scalar(api.KU8)}
	for len(l) < api.MaxTypes {
		l = append(l, array(1, len(l)-1))
		accepted(t, l)
	}
	found, e := lay.Scalars(api.Abi{Ptr: 2}, l, api.MaxTypes-1)
	if e != api.OK || !slices.Equal(found, []api.Token{{Text: "u8"}}) {
		t.Errorf("Scalars of the last one: %v, %d", found, e)
	}
	refused(t, api.Abi{Ptr: 2}, append(l, array(1, 0)))
	refused(t, api.Abi{Ptr: 2}, slices.Repeat(l, 100))
}

// P7.1, Check: how many items an array has.
func TestManyItems(t *testing.T) {
	for n := 1; n <= api.MaxArray; n++ {
		accepted(t, scalars(array(n, u8)))
	}
	for _, n := range []int{0, -1, api.MaxArray + 1, 32, math.MaxInt, math.MinInt, 1 << 32, 1<<62 + 1} {
		refused(t, api.Abi{Ptr: 2}, scalars(array(n, u8)))
	}
}

// P7.1, Check: how many fields a struct or union has, each with a name.
func TestManyFields(t *testing.T) {
	for _, kind := range []int{api.KStruct, api.KUnion} {
		for n := 1; n <= api.MaxFields; n++ {
			x := fields(kind, make([]int, n)...)
			accepted(t, scalars(x))
			x.Names = x.Names[1:]
			refused(t, api.Abi{Ptr: 2}, scalars(x))
			x.Names = []string{"k", "l", "m", "n", "o", "p", "q"}[:n+1]
			refused(t, api.Abi{Ptr: 2}, scalars(x))
		}
		refused(t, api.Abi{Ptr: 2}, scalars(fields(kind)))
		refused(t, api.Abi{Ptr: 2}, scalars(fields(kind, make([]int, api.MaxFields+1)...)))
		refused(t, api.Abi{Ptr: 2}, scalars(api.Type{Kind: kind, Names: make([]string, 100000), Parts: make([]int, 100000)}))
	}
}

// P7.1, Check: names of fields. Layer 7 knows no keywords.
func TestNames(t *testing.T) {
	good := []string{"a", "z", "m", "a0", "z9", "abcdefgh", "a1234567", "x1y", "var", "u8"}
	bad := []string{"", "A", "Z", "0", "9a", "aB", "a_", "_a", "a b", " a", "a ", "a.", "a\x00", "é", "a\xff", "\xe1", "`", "{", "a`", "a{", "a/", "a:", "abcdefghi", "a12345678", strings.Repeat("a", 1000)}
	for _, kind := range []int{api.KStruct, api.KUnion} {
		for _, s := range good {
			accepted(t, scalars(named(kind, s)))
			accepted(t, scalars(named(kind, "q", s, "r")))
			refused(t, api.Abi{Ptr: 4}, scalars(named(kind, s, s)))
			refused(t, api.Abi{Ptr: 4}, scalars(named(kind, "q", s, "r", s)))
		}
		for _, s := range bad {
			refused(t, api.Abi{Ptr: 4}, scalars(named(kind, s)))
			refused(t, api.Abi{Ptr: 4}, scalars(named(kind, "q", s)))
			refused(t, api.Abi{Ptr: 4}, scalars(named(kind, "q", "r", "s", "t", "u", s)))
		}
		accepted(t, scalars(named(kind, "a"), named(kind, "a"))) // of two types
	}
}

// tooGreat checks that the last type of l may not be, on all machines, and that all
// ahead of it may; what stands behind a type does not mend it.
func tooGreat(t *testing.T, l []api.Type) {
	t.Helper()
	accepted(t, l[:len(l)-1])
	for _, a := range samples.Machines() {
		refused(t, a, l)
		refused(t, a, append(slices.Clone(l), scalar(api.KU8)))
	}
}

// P7.1, Check: no size is above MaxSize.
func TestMaxSize(t *testing.T) {
	half := array(16, u8)
	accepted(t, scalars(array(16, u16), array(16, i16), array(8, u32), array(8, i32), array(8, ptr)))
	accepted(t, scalars(half, array(2, own), structOf(own, own), unionOf(own+1, u32), array(1, own+3)))
	accepted(t, scalars(array(7, u32), structOf(own, u8), structOf(own+1), array(1, own+2)))
	tooGreat(t, scalars(array(9, u32)))
	tooGreat(t, scalars(array(16, u32)))
	tooGreat(t, scalars(half, array(3, own)))
	tooGreat(t, scalars(half, array(16, own)))
	tooGreat(t, scalars(half, structOf(own, own, u8)))
	tooGreat(t, scalars(half, structOf(u8, own, own)))
	tooGreat(t, scalars(half, structOf(own, own), unionOf(u8, own+1), structOf(own+2, i8)))
	tooGreat(t, scalars(array(7, u32), structOf(u8, own, u8)))
	tooGreat(t, scalars(array(15, u16), structOf(u8, own, u8)))
	tooGreat(t, scalars(structOf(u8, u32), array(5, own)))
	tooGreat(t, scalars(half, structOf(own, own), structOf(own+1, own+1, own+1, own+1, own+1, own+1)))
}

// P7.1, Check: the size of a pointer tells which types may be.
func TestMaxSizeOfPointers(t *testing.T) {
	for _, l := range [][]api.Type{scalars(array(9, ptr)), scalars(array(16, ptr)), scalars(array(15, u16), structOf(own, ptr))} {
		for _, a := range samples.Machines() {
			if a.Ptr == 4 {
				refused(t, a, l)
			} else if e := lay.Check(a, l); e != api.OK {
				t.Errorf("Check(%v, %+v) = %d", a, l, e)
			}
		}
	}
}

// P7.1, Check: no type has more than MaxScalars scalars.
func TestMaxScalars(t *testing.T) {
	four, many := unionOf(u8, i8, u8, i8), array(16, u8)
	accepted(t, scalars(four, array(16, own)))
	accepted(t, scalars(many, unionOf(own, own, own, own), array(1, own+1), structOf(own+1), unionOf(own+1)))
	accepted(t, scalars(many, array(2, own), unionOf(own+1, own+1)))
	tooGreat(t, scalars(four, array(16, own), array(2, own+1)))
	tooGreat(t, scalars(four, array(16, own), structOf(own+1, u8)))
	tooGreat(t, scalars(four, array(16, own), unionOf(own+1, u8)))
	tooGreat(t, scalars(many, unionOf(own, own, own, own, u8)))
	tooGreat(t, scalars(many, unionOf(own, own, own, own, own, own)))
	tooGreat(t, scalars(unionOf(u8, u8, u8, u8, u8), array(13, own)))
}

// layout is what the chapter says of the last one of some types: its size, its align,
// where its fields or items begin.
type layout struct {
	types   []api.Type
	size    int
	align   int
	offsets []int
}

// layouts are of a machine whose pointers have so many bytes.
func layouts(p int) []layout {
	return []layout{
		{scalars(structOf(u8, u16)), 4, 2, []int{0, 2}}, // the chapter's example
		{scalars(structOf(u16, u8)), 4, 2, []int{0, 2}},
		{scalars(structOf(u8, i8)), 2, 1, []int{0, 1}},
		{scalars(structOf(u8)), 1, 1, []int{0}},
		{scalars(structOf(u8, u32)), 8, 4, []int{0, 4}},
		{scalars(structOf(u32, u8)), 8, 4, []int{0, 4}},
		{scalars(structOf(u8, u16, u32, i8, i16, i32)), 16, 4, []int{0, 2, 4, 8, 10, 12}},
		{scalars(structOf(u8, u8, u16, u8, u32, u8)), 16, 4, []int{0, 1, 2, 4, 8, 12}},
		{scalars(structOf(u8, ptr)), 2 * p, p, []int{0, p}},
		{scalars(structOf(ptr, ptr, u8)), 3 * p, p, []int{0, p, 2 * p}},
		{scalars(unionOf(u8, u16)), 2, 2, []int{0, 0}},
		{scalars(unionOf(u8, i8, u8)), 1, 1, []int{0, 0, 0}},
		{scalars(unionOf(u8, ptr)), p, p, []int{0, 0}},
		{scalars(array(3, u8), unionOf(u16, own)), 4, 2, []int{0, 0}},
		{scalars(array(5, u8), unionOf(own, u32)), 8, 4, []int{0, 0}},
		{scalars(array(5, u8), unionOf(own, u8)), 5, 1, []int{0, 0}},
		{scalars(array(3, u8)), 3, 1, []int{0, 1, 2}},
		{scalars(array(3, u16)), 6, 2, []int{0, 2, 4}},
		{scalars(array(1, i32)), 4, 4, []int{0}},
		{scalars(array(4, ptr)), 4 * p, p, []int{0, p, 2 * p, 3 * p}},
		{scalars(structOf(u8, u16), array(3, own)), 12, 2, []int{0, 4, 8}},
		{scalars(array(3, u8), structOf(u8, own, u16)), 6, 2, []int{0, 1, 4}},
		{scalars(array(2, u16), structOf(u8, own, u8)), 8, 2, []int{0, 2, 6}},
		{scalars(structOf(u8, u32), structOf(u8, own, u8)), 16, 4, []int{0, 4, 12}},
		{scalars(unionOf(u8, u32), structOf(u16, own, u8)), 12, 4, []int{0, 4, 8}},
		{scalars(array(3, u8), array(2, own)), 6, 1, []int{0, 3}},
		{scalars(array(16, u16)), 32, 2, []int{0, 2, 4, 6, 8, 10, 12, 14, 16, 18, 20, 22, 24, 26, 28, 30}},
	}
}

// P7.1: Size, Align, Field, Item of layouts written out.
func TestLayouts(t *testing.T) {
	for _, a := range samples.Machines() {
		for k, c := range layouts(a.Ptr) {
			last := len(c.types) - 1
			x := c.types[last]
			if n, e := lay.Size(a, c.types, last); n != c.size || e != api.OK {
				t.Errorf("%v, %d: Size = %d, %d; want %d", a, k, n, e, c.size)
			}
			if n, e := lay.Align(a, c.types, last); n != c.align || e != api.OK {
				t.Errorf("%v, %d: Align = %d, %d; want %d", a, k, n, e, c.align)
			}
			for i, want := range c.offsets {
				if x.Kind == api.KArray {
					if n, e := lay.Item(a, c.types, last, i); n != want || e != api.OK {
						t.Errorf("%v, %d: Item %d = %d, %d; want %d", a, k, i, n, e, want)
					}
				} else if n, of, e := lay.Field(a, c.types, last, x.Names[i]); n != want || of != x.Parts[i] || e != api.OK {
					t.Errorf("%v, %d: Field %d = %d, %d, %d; want %d, %d", a, k, i, n, of, e, want, x.Parts[i])
				}
			}
		}
	}
}

// P7.1: Size and Align of scalars.
func TestScalarSizes(t *testing.T) {
	for _, a := range samples.Machines() {
		for kind, want := range map[int]int{api.KU8: 1, api.KI8: 1, api.KU16: 2, api.KI16: 2, api.KU32: 4, api.KI32: 4, api.KPtr: a.Ptr} {
			n, e := lay.Size(a, scalars(), kind-1)
			m, f := lay.Align(a, scalars(), kind-1)
			if n != want || m != want || e != api.OK || f != api.OK {
				t.Errorf("%v, kind %d: Size %d, %d, Align %d, %d; want %d", a, kind, n, e, m, f, want)
			}
		}
	}
}

// P7.1 and P7.2: of no such type, ahead of whatever else is wrong.
func TestNoType(t *testing.T) {
	a := api.Abi{Ptr: 2}
	for _, l := range [][]api.Type{nil, scalars(structOf(u8)), scalars(array(2, u8))} {
		for _, i := range []int{len(l), len(l) + 1, api.MaxTypes, -1, math.MaxInt, math.MinInt} {
			if n, e := lay.Size(a, l, i); n != 0 || e != api.ErrNone {
				t.Errorf("Size(%d) = %d, %d", i, n, e)
			}
			if n, e := lay.Align(a, l, i); n != 0 || e != api.ErrNone {
				t.Errorf("Align(%d) = %d, %d", i, n, e)
			}
			for _, s := range []string{"a", "b", ""} {
				if n, of, e := lay.Field(a, l, i, s); n != 0 || of != 0 || e != api.ErrNone {
					t.Errorf("Field(%d, %q) = %d, %d, %d", i, s, n, of, e)
				}
			}
			for _, k := range []int{0, 2, -1} {
				if n, e := lay.Item(a, l, i, k); n != 0 || e != api.ErrNone {
					t.Errorf("Item(%d, %d) = %d, %d", i, k, n, e)
				}
			}
			if found, e := lay.Scalars(a, l, i); found != nil || e != api.ErrNone {
				t.Errorf("Scalars(%d) = %v, %d", i, found, e)
			}
		}
	}
}

// P7.1, Field: of what has none, ahead of a name that is none's; then the name.
func TestNoField(t *testing.T) {
	a := api.Abi{Ptr: 4}
	l := scalars(array(2, u8), structOf(u8, u16), named(api.KUnion, "one", "two"))
	for i := range own + 1 {
		for _, s := range []string{"a", "", "z", "A"} {
			if n, of, e := lay.Field(a, l, i, s); n != 0 || of != 0 || e != api.ErrType {
				t.Errorf("Field(%d, %q) = %d, %d, %d", i, s, n, of, e)
			}
		}
	}
	for _, s := range []string{"", "c", "A", "aa", "a ", " b", "a\x00", strings.Repeat("a", 100000), "on", "one2"} {
		for _, i := range []int{own + 1, own + 2} {
			if n, of, e := lay.Field(a, l, i, s); n != 0 || of != 0 || e != api.ErrName {
				t.Errorf("Field(%d, %q) = %d, %d, %d", i, s, n, of, e)
			}
		}
	}
	if n, of, e := lay.Field(a, l, own+1, "one"); n != 0 || of != 0 || e != api.ErrName {
		t.Errorf("Field of another type: %d, %d, %d", n, of, e)
	}
}

// P7.1, Item: of what has none, ahead of a number out of it; then the number.
func TestNoItem(t *testing.T) {
	a := api.Abi{Ptr: 2}
	l := scalars(structOf(u8, u16), unionOf(u8, u16), array(3, u16), array(1, u8))
	for i := range own + 2 {
		for _, k := range someInts() {
			if n, e := lay.Item(a, l, i, k); n != 0 || e != api.ErrType {
				t.Errorf("Item(%d, %d) = %d, %d", i, k, n, e)
			}
		}
	}
	for i, many := range map[int]int{own + 2: 3, own + 3: 1} {
		for _, k := range []int{-1, many, many + 1, api.MaxArray, math.MaxInt, math.MinInt} {
			if n, e := lay.Item(a, l, i, k); n != 0 || e != api.ErrLimit {
				t.Errorf("Item(%d, %d) = %d, %d", i, k, n, e)
			}
		}
	}
}

// places writes scalars' places as a text.
func places(l []api.Token) string {
	var s strings.Builder
	for _, x := range l {
		s.WriteString(" " + x.Text + "@" + string("0123456789ABCDEFGHIJKLMNOPQRSTUV"[x.At]))
	}
	return strings.TrimSpace(s.String())
}

// P7.2: by offsets; of one offset as they stand.
func TestScalars(t *testing.T) {
	for k, c := range []struct {
		types []api.Type
		want  string
	}{
		{scalars(), "ptr@0"},
		{scalars(scalar(api.KI16)), "i16@0"},
		{scalars(structOf(u8, u16)), "u8@0 u16@2"},
		{scalars(structOf(u32, u8, i8, i16, i32)), "u32@0 u8@4 i8@5 i16@6 i32@8"},
		{scalars(structOf(ptr, i8, ptr)), "ptr@0 i8@4 ptr@8"},
		{scalars(array(3, i16)), "i16@0 i16@2 i16@4"},
		{scalars(unionOf(u8, u32, u16, u8)), "u8@0 u32@0 u16@0 u8@0"},
		{scalars(unionOf(i32, u8, ptr)), "i32@0 u8@0 ptr@0"},
		{scalars(structOf(u8, i8), array(2, own)), "u8@0 i8@1 u8@2 i8@3"},
		{scalars(array(4, u8), array(2, u16), unionOf(own, own+1, i32)), "u8@0 u16@0 i32@0 u8@1 u8@2 u16@2 u8@3"},
		{scalars(array(4, u8), array(2, u16), unionOf(i32, own+1, own)), "i32@0 u16@0 u8@0 u8@1 u16@2 u8@2 u8@3"},
		{scalars(array(4, u8), array(2, u16), unionOf(own+1, own), structOf(u32, own+2, i8)), "u32@0 u16@4 u8@4 u8@5 u16@6 u8@6 u8@7 i8@8"},
		{scalars(unionOf(u8, i8), array(3, own), unionOf(own+1, own, u16)), "u8@0 i8@0 u8@0 i8@0 u16@0 u8@1 i8@1 u8@2 i8@2"},
		{scalars(structOf(u8, u16), unionOf(i32, own, i8), array(2, own+1)), "i32@0 u8@0 i8@0 u16@2 i32@4 u8@4 i8@4 u16@6"},
		{scalars(array(16, u16)), "u16@0 u16@2 u16@4 u16@6 u16@8 u16@A u16@C u16@E u16@G u16@I u16@K u16@M u16@O u16@Q u16@S u16@U"},
	} {
		found, e := lay.Scalars(api.Abi{Ptr: 4}, c.types, len(c.types)-1)
		if got := places(found); got != c.want || e != api.OK {
			t.Errorf("%d: %s, %d; want %s", k, got, e, c.want)
		}
	}
}

// P7.2, at the edge: all scalars that a type may have.
func TestAllScalars(t *testing.T) {
	l := scalars(unionOf(u8, i8, i8, u8), array(16, own))
	found, e := lay.Scalars(api.Abi{Ptr: 4}, l, own+1)
	if e != api.OK || len(found) != api.MaxScalars {
		t.Fatalf("%v, %d", found, e)
	}
	for i, x := range found {
		want := api.Token{Text: []string{"u8", "i8", "i8", "u8"}[i%4], At: i / 4}
		if x != want {
			t.Errorf("%d: %v; want %v", i, x, want)
		}
	}
}
