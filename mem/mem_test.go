package mem_test

import (
	"slices"
	"testing"

	"cellar/api"
	"cellar/bytes"
	"cellar/mem"
	"cellar/samples"
)

// The face: each line stops compiling if a signature changes.
var (
	_ func([]api.Block) api.Errno                                                           = mem.Check
	_ func(api.Abi, []api.Block, api.Scalar, int) (api.Scalar, int, api.Errno)              = mem.Load
	_ func(api.Abi, []api.Block, api.Scalar, int, api.Scalar) ([]api.Block, int, api.Errno) = mem.Store
	_ func([]api.Block, api.Scalar, int) (api.Scalar, int, api.Errno)                       = mem.Move
	_ func([]api.Block, api.Scalar, api.Scalar) (int, int, api.Errno)                       = mem.Apart
	_ func(api.Scalar, api.Scalar) (int, api.Errno)                                         = mem.Same
)

var (
	little = api.Abi{Ptr: 4}
	big    = api.Abi{Ptr: 4, Big: true}
	two    = api.Abi{Ptr: 2}
)

var (
	number  = samples.Number
	null    = samples.Null
	pointer = samples.Pointer
	digits  = samples.Digits
	parts   = samples.Parts
	room    = samples.Room
	memory  = samples.Memory
)

func row(l ...[]api.Byte) []api.Byte {
	return slices.Concat(l...)
}

func nothings(many int) []api.Byte {
	return make([]api.Byte, many)
}

func gone() api.Block {
	return api.Block{State: api.Freed}
}

// some is memory with a block in each state: 1 of numbers, 2 freed, 3 of a pointer and
// of nothing, 4 failed, 5 not yet, 6 without a byte.
func some() []api.Block {
	return memory(
		room(digits(1, 2, 3, 4, 5, 6, 7, 8)...),
		gone(),
		room(row(parts(1, 4, 0, 1, 2, 3), nothings(2), digits(0, 0, 0, 0))...),
		api.Block{State: api.Failed},
		api.Block{},
		room(),
	)
}

func clone(m []api.Block) []api.Block {
	var l []api.Block
	for _, b := range m {
		l = append(l, api.Block{State: b.State, Bytes: append([]api.Byte(nil), b.Bytes...)})
	}
	return l
}

// alike takes a nil list and an empty one as one.
func alike(m []api.Block, n []api.Block) bool {
	return slices.EqualFunc(m, n, func(x api.Block, y api.Block) bool {
		return x.State == y.State && slices.Equal(x.Bytes, y.Bytes)
	})
}

// with is the memory in which bytes lie at p.
func with(m []api.Block, p api.Scalar, l []api.Byte) []api.Block {
	m = clone(m)
	for i, b := range l {
		m[p.Block].Bytes[p.Off+i] = b
	}
	return m
}

// pointers are all that may be to a memory's blocks.
func pointers(m []api.Block) []api.Scalar {
	l := []api.Scalar{null()}
	for block := 1; block < len(m); block++ {
		for off := 0; off <= api.MaxSize; off++ {
			l = append(l, pointer(block, off))
		}
	}
	return l
}

// notPointers may not be, or are to no block of the memory.
func notPointers(m []api.Block) []api.Scalar {
	l := samples.NotScalars(api.KPtr)
	for block := len(m); block <= api.MaxSize; block++ {
		l = append(l, pointer(block, 0), pointer(block, 4), pointer(block, api.MaxSize))
	}
	return l
}

// met is chapter 9's words on what goes wrong with a scalar of so many bytes at p,
// whatever they are.
func met(m []api.Block, p api.Scalar, size int) int {
	if m[p.Block].State != api.Alive {
		return api.BadNull
	}
	for i := range size {
		if p.Off+i >= len(m[p.Block].Bytes) {
			return api.BadBounds
		}
	}
	for off := 0; off <= p.Off; off += size {
		if off == p.Off {
			return api.BadNone
		}
	}
	return api.BadAlign
}

// P9.1, Check: memory that may be, and none else.
func TestCheck(t *testing.T) {
	for i, m := range samples.Memories() {
		if e := mem.Check(m); e != api.OK {
			t.Errorf("%d: Check(%v) = %d", i, m, e)
		}
	}
	for i, m := range samples.NotMemories() {
		if e := mem.Check(m); e != api.ErrForm {
			t.Errorf("%d: Check(%v) = %d", i, m, e)
		}
	}
	if e := mem.Check(some()); e != api.OK {
		t.Errorf("Check(%v) = %d", some(), e)
	}
}

// P9.1, Check: how many blocks and bytes there may be, and in which states, from both
// sides of each edge; null's block is NotYet and without bytes.
func TestCheckEdges(t *testing.T) {
	for many := range 40 {
		want := api.OK
		if many > api.MaxSize {
			want = api.ErrForm
		}
		if e := mem.Check(memory(room(nothings(many)...))); e != want {
			t.Errorf("Check of a block of %d bytes = %d; want %d", many, e, want)
		}
		if e := mem.Check(memory(slices.Repeat([]api.Block{room(digits(9)...)}, many)...)); e != want {
			t.Errorf("Check of %d blocks and null's = %d; want %d", many, e, want)
		}
	}
	for state := -2; state <= 6; state++ {
		for many := range 3 {
			b := api.Block{State: state, Bytes: nothings(many)}
			want, wantOfNull := api.ErrForm, api.ErrForm
			if state == api.Alive || many == 0 && state >= api.NotYet && state <= api.Failed {
				want = api.OK
			}
			if state == api.NotYet && many == 0 {
				wantOfNull = api.OK
			}
			if e := mem.Check(memory(b)); e != want {
				t.Errorf("Check of %v = %d; want %d", b, e, want)
			}
			if e := mem.Check([]api.Block{b, room()}); e != wantOfNull {
				t.Errorf("Check of %v as null's = %d; want %d", b, e, wantOfNull)
			}
		}
	}
}

// P9.1, Load: what is told, written out.
func TestLoadWrittenOut(t *testing.T) {
	for _, c := range []struct {
		machine api.Abi
		p       api.Scalar
		kind    int
		s       api.Scalar
		bad     int
	}{
		{little, null(), api.KU8, api.Scalar{}, api.BadNull}, // the chapter's example
		{little, null(), api.KPtr, api.Scalar{}, api.BadNull},
		{little, pointer(1, 0), api.KU8, number(1), api.BadNone},
		{little, pointer(1, 7), api.KI8, number(8), api.BadNone},
		{little, pointer(1, 2), api.KU16, number(0x0403), api.BadNone},
		{big, pointer(1, 2), api.KU16, number(0x0304), api.BadNone},
		{little, pointer(1, 4), api.KU32, number(0x08070605), api.BadNone},
		{big, pointer(1, 4), api.KI32, number(0x05060708), api.BadNone},
		{little, pointer(3, 0), api.KPtr, pointer(1, 4), api.BadNone},
		{big, pointer(3, 0), api.KPtr, pointer(1, 4), api.BadNone},
		{two, pointer(3, 0), api.KPtr, pointer(1, 4), api.BadNone},
		{two, pointer(3, 6), api.KPtr, null(), api.BadNone},
		{two, pointer(3, 8), api.KPtr, null(), api.BadNone},
		{little, pointer(3, 8), api.KU16, number(0), api.BadNone},

		{little, pointer(2, 0), api.KU8, api.Scalar{}, api.BadNull},
		{little, pointer(4, 0), api.KU8, api.Scalar{}, api.BadNull},
		{little, pointer(5, 0), api.KU8, api.Scalar{}, api.BadNull},
		{little, pointer(2, 31), api.KU32, api.Scalar{}, api.BadNull}, // ahead of bounds and align
		{little, pointer(6, 0), api.KU8, api.Scalar{}, api.BadBounds},
		{little, pointer(1, 8), api.KU8, api.Scalar{}, api.BadBounds},
		{little, pointer(1, 32), api.KU8, api.Scalar{}, api.BadBounds},
		{little, pointer(1, 7), api.KU16, api.Scalar{}, api.BadBounds}, // ahead of align
		{little, pointer(1, 5), api.KU32, api.Scalar{}, api.BadBounds},
		{little, pointer(1, 6), api.KPtr, api.Scalar{}, api.BadBounds},
		{little, pointer(1, 8), api.KU32, api.Scalar{}, api.BadBounds},
		{little, pointer(1, 1), api.KU16, api.Scalar{}, api.BadAlign},
		{little, pointer(1, 2), api.KU32, api.Scalar{}, api.BadAlign},
		{little, pointer(1, 2), api.KPtr, api.Scalar{}, api.BadAlign},
		{two, pointer(1, 1), api.KPtr, api.Scalar{}, api.BadAlign},
		{little, pointer(3, 3), api.KU16, api.Scalar{}, api.BadAlign}, // ahead of mixed and empty
		{little, pointer(3, 5), api.KU16, api.Scalar{}, api.BadAlign},
		{little, pointer(3, 4), api.KU8, api.Scalar{}, api.BadEmpty},
		{little, pointer(3, 4), api.KU32, api.Scalar{}, api.BadEmpty},
		{little, pointer(3, 4), api.KPtr, api.Scalar{}, api.BadEmpty},
		{little, pointer(3, 0), api.KU8, api.Scalar{}, api.BadMixed},
		{little, pointer(3, 0), api.KU32, api.Scalar{}, api.BadMixed},
		{little, pointer(1, 0), api.KPtr, api.Scalar{}, api.BadMixed},
		{two, pointer(3, 2), api.KPtr, api.Scalar{}, api.BadMixed},
	} {
		if s, bad, e := mem.Load(c.machine, some(), c.p, c.kind); s != c.s || bad != c.bad || e != api.OK {
			t.Errorf("Load(%v, %+v, %d) = %+v, %d, %d; want %+v, %d", c.machine, c.p, c.kind, s, bad, e, c.s, c.bad)
		}
	}
}

// P9.1, Load: of all pointers to the samples' blocks, held against the chapter's words.
func TestLoad(t *testing.T) {
	for _, m := range append(samples.Memories(), some()) {
		for _, a := range samples.Machines() {
			for _, kind := range samples.ScalarKinds() {
				for _, p := range pointers(m) {
					size := samples.Size(a, kind)
					want, wrong := api.Scalar{}, met(m, p, size)
					if wrong == api.BadNone {
						want, wrong, _ = bytes.Get(a, kind, m[p.Block].Bytes[p.Off:p.Off+size])
					}
					if s, bad, e := mem.Load(a, m, p, kind); s != want || bad != wrong || e != api.OK {
						t.Fatalf("Load(%v, %v, %+v, %d) = %+v, %d, %d; want %+v, %d", a, m, p, kind, s, bad, e, want, wrong)
					}
				}
			}
		}
	}
}

// P9.1, Load: memory, pointers, kinds and machines that may not be, whatever else goes
// wrong.
func TestLoadOfWrong(t *testing.T) {
	refused := func(a api.Abi, m []api.Block, p api.Scalar, kind int) {
		t.Helper()
		if s, bad, e := mem.Load(a, m, p, kind); s != (api.Scalar{}) || bad != api.BadNone || e != api.ErrForm {
			t.Errorf("Load(%v, %v, %+v, %d) = %+v, %d, %d", a, m, p, kind, s, bad, e)
		}
	}
	right := []api.Scalar{null(), pointer(1, 0), pointer(1, 1), pointer(1, 32), pointer(2, 0)}
	for _, kind := range samples.ScalarKinds() {
		for _, p := range right {
			for _, m := range samples.NotMemories() {
				refused(little, m, p, kind)
			}
			for _, a := range samples.NotMachines() {
				refused(a, some(), p, kind)
			}
		}
		for _, p := range notPointers(some()) {
			refused(little, some(), p, kind)
		}
	}
	for _, kind := range samples.NotScalarKinds() {
		for _, p := range right {
			refused(little, some(), p, kind)
		}
	}
}

// P9.2, Same: whether two pointers are one.
func TestSame(t *testing.T) {
	all := pointers(make([]api.Block, api.MaxSize+1))
	for i, p := range all {
		for k, q := range all {
			want := 0
			if i == k {
				want = 1
			}
			if n, e := mem.Same(p, q); n != want || e != api.OK {
				t.Fatalf("Same(%+v, %+v) = %d, %d; want %d", p, q, n, e, want)
			}
		}
	}
	for _, p := range samples.NotScalars(api.KPtr) {
		for _, q := range []api.Scalar{p, null(), pointer(1, 0), pointer(32, 32)} {
			if n, e := mem.Same(p, q); n != 0 || e != api.ErrForm {
				t.Errorf("Same(%+v, %+v) = %d, %d", p, q, n, e)
			}
			if n, e := mem.Same(q, p); n != 0 || e != api.ErrForm {
				t.Errorf("Same(%+v, %+v) = %d, %d", q, p, n, e)
			}
		}
	}
}
