package bytes_test

import (
	"slices"
	"testing"

	"cellar/api"
	"cellar/bytes"
	"cellar/samples"
)

// goesWrong checks that of bytes Get tells just what goes wrong.
func goesWrong(t *testing.T, a api.Abi, kind int, l []api.Byte, want int) {
	t.Helper()
	if s, bad, e := bytes.Get(a, kind, l); s != (api.Scalar{}) || bad != want || e != api.OK {
		t.Errorf("Get(%v, %d, %v) = %+v, %d, %d; want %d", a, kind, l, s, bad, e, want)
	}
}

// P8.2: what goes wrong, in its order.
func TestGoesWrong(t *testing.T) {
	for _, a := range []api.Abi{little, big} {
		for _, kind := range []int{api.KU32, api.KI32, api.KPtr} {
			goesWrong(t, a, kind, make([]api.Byte, 4), api.BadEmpty)
			goesWrong(t, a, kind, row(nothing(), digits(0, 0, 0)), api.BadEmpty)
			goesWrong(t, a, kind, row(digits(0, 0, 0), nothing()), api.BadEmpty)
			goesWrong(t, a, kind, row(nothing(), parts(1, 0, 1, 2, 3)), api.BadEmpty)
			goesWrong(t, a, kind, row(parts(1, 0, 0, 1, 2), nothing()), api.BadEmpty)
			goesWrong(t, a, kind, row(parts(1, 0, 0), digits(9), nothing(), digits(9)), api.BadEmpty)
			goesWrong(t, a, kind, row(digits(0, 0, 0), parts(1, 0, 3)), api.BadMixed)
			goesWrong(t, a, kind, row(parts(1, 0, 0), digits(0, 0, 0)), api.BadMixed)
			goesWrong(t, a, kind, row(parts(1, 0, 0, 1, 2), digits(0)), api.BadMixed)
			goesWrong(t, a, kind, row(digits(1, 2), parts(1, 0, 2, 3)), api.BadMixed)
		}
		for _, kind := range []int{api.KU32, api.KI32} {
			goesWrong(t, a, kind, parts(1, 0, 0, 1, 2, 3), api.BadMixed)
			goesWrong(t, a, kind, parts(1, 0, 3, 3, 3, 3), api.BadMixed)
		}
		for _, kind := range []int{api.KU16, api.KI16} {
			goesWrong(t, a, kind, row(nothing(), digits(0)), api.BadEmpty)
			goesWrong(t, a, kind, row(digits(0), parts(1, 0, 0)), api.BadMixed)
			goesWrong(t, a, kind, row(parts(1, 0, 0), nothing()), api.BadEmpty)
		}
		for _, kind := range []int{api.KU8, api.KI8} {
			goesWrong(t, a, kind, nothing(), api.BadEmpty)
			goesWrong(t, a, kind, parts(1, 0, 0), api.BadMixed)
		}
	}
}

// P8.2: bytes of no pointer.
func TestNoPointer(t *testing.T) {
	for _, a := range []api.Abi{little, big} {
		for _, l := range [][]api.Byte{
			digits(0, 0, 0, 1),
			digits(1, 0, 0, 0),
			digits(1, 2, 3, 4),
			parts(1, 0, 3, 2, 1, 0),
			parts(1, 0, 0, 0, 0, 0),
			parts(1, 0, 0, 1, 2, 2),
			parts(1, 0, 1, 2, 3, 3),
			parts(1, 0, 2, 3, 0, 1),
			row(parts(1, 0, 0, 1), parts(2, 0, 2, 3)),
			row(parts(1, 0, 0, 1), parts(1, 1, 2, 3)),
			row(parts(1, 0, 0, 1, 2), parts(1, 4, 3)),
			row(parts(2, 0, 0), parts(1, 0, 1, 2, 3)),
		} {
			goesWrong(t, a, api.KPtr, l, api.BadMixed)
		}
		a.Ptr = 2
		for _, l := range [][]api.Byte{digits(0, 1), digits(1, 0), parts(1, 0, 1, 0), parts(1, 0, 1, 2), parts(1, 0, 2, 3), parts(1, 0, 0, 2), row(parts(1, 0, 0), digits(0)), row(digits(0), parts(1, 0, 1)), row(parts(1, 0, 0), parts(1, 1, 1))} {
			goesWrong(t, a, api.KPtr, l, api.BadMixed)
		}
	}
}

// read is chapter 8's words on bytes: a pointer is sought among those whose parts may
// be met here, a number is what the bytes count, one by one.
func read(a api.Abi, kind int, l []api.Byte, pointers []api.Scalar) (api.Scalar, int) {
	if slices.Contains(l, api.Byte{}) {
		return api.Scalar{}, api.BadEmpty
	}
	if kind == api.KPtr {
		for _, p := range pointers {
			if slices.Equal(l, written(a, kind, p)) {
				return p, api.BadNone
			}
		}
		return api.Scalar{}, api.BadMixed
	}
	n := 0
	for i := range l {
		b := l[i]
		if !a.Big {
			b = l[len(l)-1-i]
		}
		if b.State == api.IsPart {
			return api.Scalar{}, api.BadMixed
		}
		n = n*256 + b.N
	}
	return number(n), api.BadNone
}

// rows hands all lists of so many bytes out of these to do.
func rows(many int, of []api.Byte, do func([]api.Byte)) {
	var longer func(l []api.Byte)
	longer = func(l []api.Byte) {
		if len(l) == many {
			do(l)
			return
		}
		for _, b := range of {
			longer(append(l, b))
		}
	}
	longer(make([]api.Byte, 0, many))
}

// P8.2: all lists of some bytes, held against the chapter's words.
func TestAllRows(t *testing.T) {
	pointers := []api.Scalar{null(), pointer(1, 0), pointer(1, 1), pointer(2, 0)}
	of := row(nothing(), digits(0, 1, 255))
	for _, p := range pointers[1:] {
		of = append(of, parts(p.Block, p.Off, 0, 1, 2, 3)...)
	}
	for _, a := range samples.Machines() {
		for _, kind := range samples.ScalarKinds() {
			rows(samples.Size(a, kind), of, func(l []api.Byte) {
				want, wrong := read(a, kind, l, pointers)
				if s, bad, e := bytes.Get(a, kind, l); s != want || bad != wrong || e != api.OK {
					t.Fatalf("Get(%v, %d, %v) = %+v, %d, %d; want %+v, %d", a, kind, l, s, bad, e, want, wrong)
				}
			})
		}
	}
}

// P8.2: as a number a scalar's bytes are the number of another kind, too.
func TestOtherKind(t *testing.T) {
	for _, a := range samples.Machines() {
		for _, kinds := range [][2]int{{api.KU8, api.KI8}, {api.KU16, api.KI16}, {api.KU32, api.KI32}} {
			for _, s := range samples.Scalars(kinds[0]) {
				l, _ := bytes.Put(a, kinds[0], s)
				if x, bad, e := bytes.Get(a, kinds[1], l); x != s || bad != api.BadNone || e != api.OK {
					t.Errorf("Get(%v, %d, %v) = %+v, %d, %d; want %+v", a, kinds[1], l, x, bad, e, s)
				}
			}
		}
		l, _ := bytes.Put(a, api.KPtr, null())
		kind := api.KU16
		if a.Ptr == 4 {
			kind = api.KI32
		}
		if x, bad, e := bytes.Get(a, kind, l); x != number(0) || bad != api.BadNone || e != api.OK {
			t.Errorf("Get(%v, %d) of null's bytes = %+v, %d, %d", a, kind, x, bad, e)
		}
	}
}

// noForm checks that Get refuses.
func noForm(t *testing.T, a api.Abi, kind int, l []api.Byte) {
	t.Helper()
	if s, bad, e := bytes.Get(a, kind, l); s != (api.Scalar{}) || bad != api.BadNone || e != api.ErrForm {
		t.Errorf("Get(%v, %d, %v) = %+v, %d, %d", a, kind, l, s, bad, e)
	}
}

// P8.2: machines and kinds that may not be, lists of another length.
func TestGetOfWrong(t *testing.T) {
	for many := range 9 {
		for _, l := range [][]api.Byte{make([]api.Byte, many), digits(make([]int, many)...)} {
			for _, kind := range samples.ScalarKinds() {
				for _, a := range samples.NotMachines() {
					noForm(t, a, kind, l)
				}
				for _, a := range samples.Machines() {
					if many != samples.Size(a, kind) {
						noForm(t, a, kind, l)
					}
				}
			}
			for _, kind := range samples.NotScalarKinds() {
				noForm(t, little, kind, l)
				noForm(t, big, kind, l)
			}
		}
	}
	for _, kind := range samples.ScalarKinds() {
		noForm(t, little, kind, nil)
		noForm(t, little, kind, make([]api.Byte, 100000))
	}
}

// P8.2: bytes that may not be, wherever, ahead of what goes wrong.
func TestGetOfWrongBytes(t *testing.T) {
	for _, a := range samples.Machines() {
		for _, kind := range samples.ScalarKinds() {
			size := samples.Size(a, kind)
			for at := range size {
				for _, b := range samples.NotBytes() {
					for _, l := range [][]api.Byte{make([]api.Byte, size), digits(make([]int, size)...), parts(1, 0, []int{0, 1, 2, 3}[:size]...)} {
						l[at] = b
						noForm(t, a, kind, l)
					}
				}
			}
		}
	}
}

// R2: what is told is new memory, spare room too; what is handed in stays as it is.
func TestNewMemory(t *testing.T) {
	for _, a := range samples.Machines() {
		for _, kind := range samples.ScalarKinds() {
			for _, s := range samples.Scalars(kind) {
				one, _ := bytes.Put(a, kind, s)
				other, _ := bytes.Put(a, kind, s)
				full := one[:cap(one)]
				for i := range full {
					full[i] = samples.Part(9, 9, 3)
				}
				if want := written(a, kind, s); !slices.Equal(other, want) {
					t.Fatalf("Put(%v, %d, %+v) changed: %v", a, kind, s, other)
				}
				back(t, a, kind, s)
				kept := slices.Clone(other)
				bytes.Get(a, kind, other)
				if !slices.Equal(other, kept) {
					t.Fatalf("Get(%v, %d) changed %v to %v", a, kind, kept, other)
				}
			}
		}
	}
}

// R1: the same, whoever calls at the same time.
func TestTogether(t *testing.T) {
	shared := parts(4, 8, 0, 1, 2, 3)
	samples.Together(func() {
		if s, bad, e := bytes.Get(big, api.KPtr, shared); s != pointer(4, 8) || bad != api.BadNone || e != api.OK {
			t.Errorf("Get = %+v, %d, %d", s, bad, e)
		}
		if s, bad, e := bytes.Get(little, api.KU32, shared); s != (api.Scalar{}) || bad != api.BadMixed || e != api.OK {
			t.Errorf("Get = %+v, %d, %d", s, bad, e)
		}
		if l, e := bytes.Put(big, api.KU16, number(258)); !slices.Equal(l, digits(1, 2)) || e != api.OK {
			t.Errorf("Put = %v, %d", l, e)
		}
	})
}
