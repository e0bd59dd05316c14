package lay_test

import (
	"math/rand"
	"reflect"
	"slices"
	"testing"

	"cellar/api"
	"cellar/lay"
	"cellar/samples"
)

// told is chapter 7's words on a type, told part by part, ever again.
type told struct {
	size  int
	align int
	parts []api.Token // Text none: where parts begin
	all   []api.Token
}

func tell(a api.Abi, l []api.Type, i int) told {
	x := l[i]
	switch x.Kind {
	case api.KArray:
		return tellRow(a, l, slices.Repeat([]int{x.Of}, x.N), false)
	case api.KStruct, api.KUnion:
		return tellRow(a, l, x.Parts, x.Kind == api.KUnion)
	case api.KPtr:
		return told{a.Ptr, a.Ptr, nil, []api.Token{{Text: "ptr"}}}
	}
	n := samples.Width(x.Kind) / 8
	name := map[int]string{api.KU8: "u8", api.KI8: "i8", api.KU16: "u16", api.KI16: "i16", api.KU32: "u32", api.KI32: "i32"}[x.Kind]
	return told{n, n, nil, []api.Token{{Text: name}}}
}

func tellRow(a api.Abi, l []api.Type, parts []int, union bool) told {
	row := told{align: 1}
	end := 0
	for _, i := range parts {
		part := tell(a, l, i)
		if union {
			end = 0
		}
		for end%part.align != 0 {
			end++
		}
		row.parts = append(row.parts, api.Token{At: end})
		for _, x := range part.all {
			row.all = append(row.all, api.Token{Text: x.Text, At: x.At + end})
		}
		end += part.size
		row.size, row.align = max(row.size, end), max(row.align, part.align)
	}
	for row.size%row.align != 0 {
		row.size++
	}
	return row
}

// byOffsets goes through the offsets, so that of one offset all stay as they stand.
func byOffsets(l []api.Token) []api.Token {
	var sorted []api.Token
	for at := range api.MaxSize {
		for _, x := range l {
			if x.At == at {
				sorted = append(sorted, x)
			}
		}
	}
	return sorted
}

// some is a type with so many ahead of it.
func some(number func(int) int, ahead int) api.Type {
	place := func() int { return max(0, ahead-1-number(ahead)) }
	if ahead == 0 || number(3) == 0 {
		return scalar(api.KU8 + number(api.KPtr))
	}
	if number(3) == 0 {
		return array(1+number(1+number(api.MaxArray)), place())
	}
	var parts []int
	for range 1 + number(api.MaxFields) {
		parts = append(parts, place())
	}
	return fields([]int{api.KStruct, api.KUnion}[number(2)], parts...)
}

// chance makes types that may be, on a machine, and tells of each what is so; those
// that are too great are handed to great instead.
func chance(number func(int) int, a api.Abi, great func([]api.Type)) ([]api.Type, []told) {
	var l []api.Type
	var all []told
	for tries := range 60 {
		l = append(l[:len(l):len(l)], some(number, len(l)))
		x := tell(a, l, len(l)-1)
		if x.size > api.MaxSize || len(x.all) > api.MaxScalars {
			great(l)
			l = l[:len(l)-1]
		} else {
			all = append(all, x)
		}
		if len(l) == api.MaxTypes || tries > 10 && number(30) == 0 {
			break
		}
	}
	return l, all
}

// holds checks all calls of type i against what is so.
func holds(t *testing.T, a api.Abi, l []api.Type, i int, want told) {
	t.Helper()
	size, e := lay.Size(a, l, i)
	align, f := lay.Align(a, l, i)
	found, g := lay.Scalars(a, l, i)
	if size != want.size || align != want.align || !slices.Equal(found, byOffsets(want.all)) || e != api.OK || f != api.OK || g != api.OK {
		t.Fatalf("%v, %d of %+v: %d, %d, %v (%d, %d, %d); want %+v", a, i, l, size, align, found, e, f, g, want)
	}
	for k, part := range want.parts {
		if l[i].Kind == api.KArray {
			if at, e := lay.Item(a, l, i, k); at != part.At || e != api.OK {
				t.Fatalf("%v, Item %d of %d of %+v: %d, %d; want %d", a, k, i, l, at, e, part.At)
			}
			continue
		}
		at, of, e := lay.Field(a, l, i, l[i].Names[k])
		if at != part.At || of != l[i].Parts[k] || e != api.OK {
			t.Fatalf("%v, Field %d of %d of %+v: %d, %d, %d; want %d", a, k, i, l, at, of, e, part.At)
		}
		// P7.3: no field goes over the size.
		if inner, _ := lay.Size(a, l, of); at < 0 || at+inner > size {
			t.Fatalf("%v, Field %d of %d of %+v: from %d on %d bytes, of %d", a, k, i, l, at, inner, size)
		}
	}
}

// P7.1 to P7.3: whatever types, held against the chapter's words.
func TestWhatever(t *testing.T) {
	r := rand.New(rand.NewSource(1))
	great, many := 0, 0
	for range 500 {
		for _, a := range samples.Machines() {
			l, all := chance(r.Intn, a, func(l []api.Type) {
				great++
				if e := lay.Check(a, l); e != api.ErrForm {
					t.Fatalf("Check(%v, %+v) = %d", a, l, e)
				}
			})
			if e := lay.Check(a, l); e != api.OK {
				t.Fatalf("Check(%v, %+v) = %d", a, l, e)
			}
			for i, want := range all {
				many++
				holds(t, a, l, i, want)
			}
		}
	}
	if great < 1000 || many < 10000 {
		t.Errorf("only %d types, and %d that are too great", many, great)
	}
}

// spoilt is types of which one field of one is something else, such that they may not
// be.
func spoilt(number func(int) int, l []api.Type) []api.Type {
	l = copied(l)
	i := number(len(l))
	x := &l[i]
	behind := []int{-1, i, i + 1, len(l), 1 << 40}[number(5)]
	switch {
	case number(4) == 0:
		x.Kind = []int{api.KNone, api.KPart, -1, 99}[number(4)]
	case x.Kind == api.KArray && number(2) == 0:
		x.Of = behind
	case x.Kind == api.KArray:
		x.N = []int{0, -1, api.MaxArray + 1, 1 << 40}[number(4)]
	case len(x.Parts) == 0:
		x.N = []int{1, -1, 1 << 40}[number(3)]
	case number(2) == 0:
		x.Parts[number(len(x.Parts))] = behind
	default:
		x.Names[number(len(x.Names))] = []string{"", "A", "9", "toolongit", "a_"}[number(5)]
	}
	return l
}

func copied(l []api.Type) []api.Type {
	l = slices.Clone(l)
	for i := range l {
		l[i].Names, l[i].Parts = slices.Clone(l[i].Names), slices.Clone(l[i].Parts)
	}
	return l
}

// P7.1: one wrong field of whatever types.
func TestSpoilt(t *testing.T) {
	r := rand.New(rand.NewSource(2))
	for range 5000 {
		a := samples.Machines()[r.Intn(4)]
		l, _ := chance(r.Intn, a, func([]api.Type) {})
		l = spoilt(r.Intn, l)
		if e := lay.Check(a, l); e != api.ErrForm {
			t.Fatalf("Check(%v, %+v) = %d", a, l, e)
		}
	}
}

// R2: what is handed in is not changed, what is told is new.
func TestNothingIsShared(t *testing.T) {
	a := api.Abi{Ptr: 4}
	l := scalars(array(4, u8), array(2, u16), unionOf(own+1, own), structOf(u32, own+2, i8))
	before := copied(l)
	want := tell(a, l, own+3)
	for range 3 {
		holds(t, a, l, own+3, want)
		found, _ := lay.Scalars(a, l, own+3)
		for i := range found {
			found[i] = api.Token{Text: "spoilt", At: 99}
		}
		room := append(found, api.Token{Text: "more"})[:cap(found)]
		for i := range room {
			room[i].At = 98
		}
	}
	if !reflect.DeepEqual(l, before) {
		t.Errorf("changed: %+v", l)
	}
	// Nothing of what was handed in is kept: it may be another one the next time.
	l[own+3].Parts[0] = u8
	holds(t, a, l, own+3, tell(a, l, own+3))
}

// R1: how goroutines take turns is not to be seen.
func TestTogether(t *testing.T) {
	a := api.Abi{Ptr: 2}
	l := scalars(structOf(u8, ptr), array(3, own), unionOf(own+1, u32))
	samples.Together(func() {
		size, e := lay.Size(a, l, own+2)
		found, f := lay.Scalars(a, l, own+2)
		if size != 12 || places(found) != "u8@0 u32@0 ptr@2 u8@4 ptr@6 u8@8 ptr@A" || e != api.OK || f != api.OK {
			t.Errorf("%d, %v, %d, %d", size, found, e, f)
		}
	})
}
