package mem_test

import (
	"testing"

	"cellar/api"
	"cellar/bytes"
	"cellar/mem"
	"cellar/samples"
)

// P9.1, Store: what is told, written out.
func TestStoreWrittenOut(t *testing.T) {
	for _, c := range []struct {
		machine api.Abi
		p       api.Scalar
		kind    int
		s       api.Scalar
		l       []api.Byte
		bad     int
	}{
		{little, pointer(1, 3), api.KU8, number(200), digits(200), api.BadNone},
		{little, pointer(1, 2), api.KU16, number(258), digits(2, 1), api.BadNone},
		{big, pointer(1, 6), api.KU16, number(258), digits(1, 2), api.BadNone},
		{little, pointer(1, 4), api.KI32, number(0xfffffffe), digits(254, 255, 255, 255), api.BadNone},
		{big, pointer(3, 4), api.KI32, number(0xfffffffe), digits(255, 255, 255, 254), api.BadNone},
		{little, pointer(1, 4), api.KPtr, null(), digits(0, 0, 0, 0), api.BadNone},
		{little, pointer(1, 4), api.KPtr, pointer(3, 8), parts(3, 8, 0, 1, 2, 3), api.BadNone},
		{two, pointer(1, 6), api.KPtr, pointer(3, 8), parts(3, 8, 0, 1), api.BadNone},
		{little, pointer(1, 0), api.KPtr, pointer(32, 32), parts(32, 32, 0, 1, 2, 3), api.BadNone}, // whether there is such a block or not
		{little, pointer(3, 1), api.KU8, number(0), digits(0), api.BadNone},                        // over a part
		{little, pointer(3, 4), api.KU16, number(0), digits(0, 0), api.BadNone},                    // over nothing

		{little, null(), api.KU8, number(0), nil, api.BadNull},
		{little, pointer(2, 0), api.KU8, number(0), nil, api.BadNull},
		{little, pointer(4, 0), api.KU32, number(0), nil, api.BadNull},
		{little, pointer(5, 31), api.KU32, number(0), nil, api.BadNull}, // ahead of bounds and align
		{little, pointer(6, 0), api.KU8, number(0), nil, api.BadBounds},
		{little, pointer(1, 8), api.KU8, number(0), nil, api.BadBounds},
		{little, pointer(1, 7), api.KU16, number(0), nil, api.BadBounds}, // ahead of align
		{little, pointer(1, 32), api.KPtr, null(), nil, api.BadBounds},
		{little, pointer(1, 1), api.KU16, number(0), nil, api.BadAlign},
		{little, pointer(1, 2), api.KPtr, null(), nil, api.BadAlign},
		{little, pointer(3, 5), api.KU16, number(0), nil, api.BadAlign},
	} {
		want := with(some(), c.p, c.l)
		if x, bad, e := mem.Store(c.machine, some(), c.p, c.kind, c.s); !alike(x, want) || bad != c.bad || e != api.OK {
			t.Errorf("Store(%v, %+v, %d, %+v) = %v, %d, %d; want %v, %d", c.machine, c.p, c.kind, c.s, x, bad, e, want, c.bad)
		}
	}
}

// stored checks P9.1 and P9.3 of one Store: just the scalar's bytes are new; Load behind
// it is the scalar; where something goes wrong it is what goes wrong with Load.
func stored(t *testing.T, a api.Abi, m []api.Block, p api.Scalar, kind int, s api.Scalar) {
	t.Helper()
	want, wrong := clone(m), met(m, p, samples.Size(a, kind))
	if wrong == api.BadNone {
		l, _ := bytes.Put(a, kind, s)
		want = with(m, p, l)
	}
	kept := clone(m)
	x, bad, e := mem.Store(a, m, p, kind, s)
	if !alike(x, want) || bad != wrong || e != api.OK || mem.Check(x) != api.OK {
		t.Fatalf("Store(%v, %v, %+v, %d, %+v) = %v, %d, %d; want %v, %d", a, kept, p, kind, s, x, bad, e, want, wrong)
	}
	if !alike(m, kept) {
		t.Fatalf("Store(%v, %v, %+v, %d, %+v) changed it to %v", a, kept, p, kind, s, m)
	}
	if wrong != api.BadNone {
		s = api.Scalar{}
	}
	if y, bad, e := mem.Load(a, x, p, kind); y != s || bad != wrong || e != api.OK {
		t.Fatalf("Load(%v, %v, %+v, %d) = %+v, %d, %d; want %+v, %d", a, x, p, kind, y, bad, e, s, wrong)
	}
}

// P9.1, Store, and P9.3: at all pointers, of the samples' scalars.
func TestStore(t *testing.T) {
	for _, m := range [][]api.Block{memory(), memory(room()), some(), memory(room(nothings(32)...), room(parts(1, 1, 0, 1, 2, 3)...), gone())} {
		for _, a := range samples.Machines() {
			for _, kind := range samples.ScalarKinds() {
				for _, p := range pointers(m) {
					for _, s := range samples.Scalars(kind) {
						stored(t, a, m, p, kind, s)
					}
				}
			}
		}
	}
	for _, m := range samples.Memories() {
		for _, a := range samples.Machines() {
			for _, kind := range samples.ScalarKinds() {
				for _, p := range pointers(m) {
					stored(t, a, m, p, kind, samples.Scalars(kind)[p.Off%10])
				}
			}
		}
	}
}

// P9.1, Store: one behind the other, as another kind and over each other.
func TestStoreOverOther(t *testing.T) {
	m := memory(room(nothings(8)...))
	for _, c := range []struct {
		off  int
		kind int
		s    api.Scalar
		want []api.Byte
	}{
		{0, api.KPtr, pointer(1, 4), row(parts(1, 4, 0, 1, 2, 3), nothings(4))},
		{4, api.KU16, number(0x0102), row(parts(1, 4, 0, 1, 2, 3), digits(2, 1), nothings(2))},
		{2, api.KU8, number(7), row(parts(1, 4, 0, 1), digits(7), parts(1, 4, 3), digits(2, 1), nothings(2))},
		{4, api.KPtr, pointer(1, 0), row(parts(1, 4, 0, 1), digits(7), parts(1, 4, 3), parts(1, 0, 0, 1, 2, 3))},
		{6, api.KU16, number(0), row(parts(1, 4, 0, 1), digits(7), parts(1, 4, 3), parts(1, 0, 0, 1), digits(0, 0))},
		{0, api.KU32, number(1), row(digits(1, 0, 0, 0), parts(1, 0, 0, 1), digits(0, 0))},
	} {
		x, bad, e := mem.Store(little, m, pointer(1, c.off), c.kind, c.s)
		if want := memory(room(c.want...)); !alike(x, want) || bad != api.BadNone || e != api.OK {
			t.Fatalf("Store(%v, %d, %d, %+v) = %v, %d, %d; want %v", m, c.off, c.kind, c.s, x, bad, e, want)
		}
		m = x
	}
}

// P9.1, Store: memory, pointers, kinds, scalars and machines that may not be, whatever
// else goes wrong.
func TestStoreOfWrong(t *testing.T) {
	refused := func(a api.Abi, m []api.Block, p api.Scalar, kind int, s api.Scalar) {
		t.Helper()
		if x, bad, e := mem.Store(a, m, p, kind, s); len(x) > 0 || bad != api.BadNone || e != api.ErrForm {
			t.Errorf("Store(%v, %v, %+v, %d, %+v) = %v, %d, %d", a, m, p, kind, s, x, bad, e)
		}
	}
	right := []api.Scalar{null(), pointer(1, 0), pointer(1, 1), pointer(1, 32), pointer(2, 0)}
	for _, kind := range samples.ScalarKinds() {
		for _, s := range samples.Scalars(kind) {
			for _, p := range notPointers(some()) {
				refused(little, some(), p, kind, s)
			}
			for _, a := range samples.NotMachines() {
				refused(a, some(), pointer(1, 0), kind, s)
				refused(a, some(), null(), kind, s)
			}
		}
		for _, p := range right {
			for _, m := range samples.NotMemories() {
				refused(little, m, p, kind, samples.Scalars(kind)[1])
			}
			for _, s := range samples.NotScalars(kind) {
				refused(little, some(), p, kind, s)
			}
		}
	}
	for _, kind := range samples.NotScalarKinds() {
		for _, p := range right {
			for _, s := range []api.Scalar{number(0), null(), pointer(1, 0)} {
				refused(little, some(), p, kind, s)
			}
		}
	}
}

// spoil writes over all that a memory has, its spare room, too.
func spoil(m []api.Block) {
	m = m[:cap(m)]
	for i := range m {
		l := m[i].Bytes[:cap(m[i].Bytes)]
		for k := range l {
			l[k] = samples.Part(9, 9, 3)
		}
		m[i] = api.Block{State: api.Failed}
	}
}

// R2: what is told is new memory, spare room too, whether something goes wrong or not;
// no two lists of one answer share any.
func TestNewMemory(t *testing.T) {
	line := make([]api.Byte, 16)
	shared := room(line[:8]...) // the same bytes in two blocks, with room behind them
	for _, p := range []api.Scalar{pointer(1, 4), pointer(2, 0), pointer(1, 9), pointer(1, 1), null()} {
		m := memory(shared, shared, some()[1], some()[3])
		one, _, _ := mem.Store(little, m, p, api.KU32, number(1))
		other, _, _ := mem.Store(little, m, p, api.KU32, number(1))
		want, kept := clone(other), clone(m)
		if alike(one[1:2], one[2:3]) == (met(m, p, 4) == api.BadNone) {
			t.Errorf("Store at %+v: two blocks are one: %v", p, one)
		}
		for i := range one {
			_ = append(one[i].Bytes, samples.Digit(77), samples.Digit(78))
			if !alike(one, want) || !alike(m, kept) {
				t.Errorf("Store at %+v: appending to block %d changed something", p, i)
			}
		}
		spoil(one)
		if !alike(other, want) || !alike(m, kept) {
			t.Errorf("Store at %+v: %v and %v share with what is told", p, other, m)
		}
	}
	for i, b := range line {
		if b != (api.Byte{}) {
			t.Errorf("byte %d of what was handed in is %v", i, b)
		}
	}
}

// R2: no call changes what is handed in.
func TestHandedInStays(t *testing.T) {
	for _, m := range append(samples.Memories(), some()) {
		kept := clone(m)
		for _, p := range pointers(m) {
			mem.Check(m)
			mem.Load(little, m, p, api.KU16)
			mem.Move(m, p, 1)
			mem.Apart(m, p, pointers(m)[0])
		}
		if !alike(m, kept) {
			t.Errorf("%v changed to %v", kept, m)
		}
	}
}

// R1: the same, whoever calls at the same time.
func TestTogether(t *testing.T) {
	m := some()
	want := with(m, pointer(1, 4), parts(3, 0, 0, 1, 2, 3))
	samples.Together(func() {
		if x, bad, e := mem.Store(big, m, pointer(1, 4), api.KPtr, pointer(3, 0)); !alike(x, want) || bad != api.BadNone || e != api.OK {
			t.Errorf("Store = %v, %d, %d", x, bad, e)
		}
		if s, bad, e := mem.Load(big, m, pointer(1, 4), api.KU16); s != number(0x0506) || bad != api.BadNone || e != api.OK {
			t.Errorf("Load = %+v, %d, %d", s, bad, e)
		}
		if q, bad, e := mem.Move(m, pointer(1, 4), 4); q != pointer(1, 8) || bad != api.BadNone || e != api.OK {
			t.Errorf("Move = %+v, %d, %d", q, bad, e)
		}
	})
}
