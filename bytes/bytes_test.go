package bytes_test

import (
	"encoding/binary"
	"math"
	"slices"
	"testing"

	"cellar/api"
	"cellar/bytes"
	"cellar/samples"
)

// The face: each line stops compiling if a signature changes.
var (
	_ func(int, api.Scalar) api.Errno                             = bytes.Check
	_ func(api.Byte) api.Errno                                    = bytes.Byte
	_ func(api.Abi, int, api.Scalar) ([]api.Byte, api.Errno)      = bytes.Put
	_ func(api.Abi, int, []api.Byte) (api.Scalar, int, api.Errno) = bytes.Get
)

var (
	little = api.Abi{Ptr: 4}
	big    = api.Abi{Ptr: 4, Big: true}
)

var (
	number  = samples.Number
	null    = samples.Null
	pointer = samples.Pointer
	digits  = samples.Digits
	parts   = samples.Parts
)

func row(l ...[]api.Byte) []api.Byte {
	return slices.Concat(l...)
}

func nothing() []api.Byte {
	return make([]api.Byte, 1)
}

// written is chapter 8's words on a scalar's bytes; numbers as the library writes them.
func written(a api.Abi, kind int, s api.Scalar) []api.Byte {
	size := samples.Size(a, kind)
	if s.Block > 0 {
		return parts(s.Block, s.Off, []int{0, 1, 2, 3}[:size]...)
	}
	var order binary.ByteOrder = binary.LittleEndian
	if a.Big {
		order = binary.BigEndian
	}
	l := make([]byte, size)
	switch size {
	case 1:
		l[0] = byte(s.N)
	case 2:
		order.PutUint16(l, uint16(s.N))
	default:
		order.PutUint32(l, uint32(s.N))
	}
	var found []api.Byte
	for _, b := range l {
		found = append(found, samples.Digit(int(b)))
	}
	return found
}

// P8.1, Check: scalars that may be, of each kind, and none else.
func TestCheck(t *testing.T) {
	for _, kind := range samples.ScalarKinds() {
		for _, s := range samples.Scalars(kind) {
			if e := bytes.Check(kind, s); e != api.OK {
				t.Errorf("Check(%d, %+v) = %d", kind, s, e)
			}
		}
		for _, s := range samples.NotScalars(kind) {
			if e := bytes.Check(kind, s); e != api.ErrForm {
				t.Errorf("Check(%d, %+v) = %d", kind, s, e)
			}
		}
	}
	for _, kind := range samples.NotScalarKinds() {
		for _, s := range []api.Scalar{number(0), number(1), null(), pointer(1, 0)} {
			if e := bytes.Check(kind, s); e != api.ErrForm {
				t.Errorf("Check(%d, %+v) = %d", kind, s, e)
			}
		}
	}
}

// P8.1, Check: numbers at the edges of their width, and pointers up to MaxSize.
func TestCheckEdges(t *testing.T) {
	for _, c := range []struct {
		kind int
		top  int
	}{{api.KU8, 255}, {api.KI8, 255}, {api.KU16, 65535}, {api.KI16, 65535}, {api.KU32, 4294967295}, {api.KI32, 4294967295}} {
		for n, want := range map[int]api.Errno{-1: api.ErrForm, 0: api.OK, c.top: api.OK, c.top + 1: api.ErrForm} {
			if e := bytes.Check(c.kind, number(n)); e != want {
				t.Errorf("Check(%d, %d) = %d; want %d", c.kind, n, e, want)
			}
		}
	}
	for block := -1; block <= 33; block++ {
		for off := -1; off <= 33; off++ {
			want := api.OK
			if block < 0 || off < 0 || block > 32 || off > 32 || block == 0 && off != 0 {
				want = api.ErrForm
			}
			if e := bytes.Check(api.KPtr, pointer(block, off)); e != want {
				t.Errorf("Check of a pointer to %d, %d = %d; want %d", block, off, e, want)
			}
		}
	}
}

// mayBe is chapter 8's words on a byte.
func mayBe(b api.Byte) bool {
	nowhere := b.Block == 0 && b.Off == 0 && b.I == 0
	switch {
	case b.State == api.IsNothing:
		return b.N == 0 && nowhere
	case b.State == api.IsByte:
		return 0 <= b.N && b.N <= 255 && nowhere
	case b.State != api.IsPart || b.N != 0:
		return false
	}
	return 1 <= b.Block && b.Block <= 32 && 0 <= b.Off && b.Off <= 32 && 0 <= b.I && b.I <= 3
}

// P8.1, Byte: bytes that may be, and none else.
func TestByte(t *testing.T) {
	for _, b := range samples.Bytes() {
		if e := bytes.Byte(b); e != api.OK {
			t.Errorf("Byte(%+v) = %d", b, e)
		}
	}
	for _, b := range samples.NotBytes() {
		if e := bytes.Byte(b); e != api.ErrForm {
			t.Errorf("Byte(%+v) = %d", b, e)
		}
	}
	places := []int{math.MinInt, -1, 0, 1, 3, 4, 32, 33, math.MaxInt}
	for state := -1; state <= 4; state++ {
		for _, n := range []int{-1, 0, 1, 32, 255, 256, math.MaxInt} {
			for _, block := range places {
				for _, off := range places {
					for _, i := range places {
						b := api.Byte{State: state, N: n, Block: block, Off: off, I: i}
						if e := bytes.Byte(b); (e == api.OK) != mayBe(b) || e != api.OK && e != api.ErrForm {
							t.Fatalf("Byte(%+v) = %d", b, e)
						}
					}
				}
			}
		}
	}
}

// P8.1 and P8.2: bytes written out, and what they are.
func TestWrittenOut(t *testing.T) {
	two, bigTwo := api.Abi{Ptr: 2}, api.Abi{Ptr: 2, Big: true}
	for _, c := range []struct {
		machine api.Abi
		kind    int
		s       api.Scalar
		l       []api.Byte
	}{
		{big, api.KU16, number(258), digits(1, 2)}, // the chapter's example
		{little, api.KU16, number(258), digits(2, 1)},
		{little, api.KU8, number(7), digits(7)},
		{big, api.KU8, number(7), digits(7)},
		{little, api.KI8, number(255), digits(255)},
		{little, api.KI16, number(65534), digits(254, 255)},
		{big, api.KI16, number(65534), digits(255, 254)},
		{little, api.KU32, number(0x01020304), digits(4, 3, 2, 1)},
		{big, api.KU32, number(0x01020304), digits(1, 2, 3, 4)},
		{little, api.KI32, number(0xfffefdfc), digits(252, 253, 254, 255)},
		{big, api.KI32, number(0xfffefdfc), digits(255, 254, 253, 252)},
		{two, api.KU32, number(0x01020304), digits(4, 3, 2, 1)},
		{two, api.KPtr, null(), digits(0, 0)},
		{big, api.KPtr, null(), digits(0, 0, 0, 0)},
		{little, api.KPtr, pointer(3, 5), parts(3, 5, 0, 1, 2, 3)},
		{big, api.KPtr, pointer(3, 5), parts(3, 5, 0, 1, 2, 3)},
		{two, api.KPtr, pointer(32, 0), parts(32, 0, 0, 1)},
		{bigTwo, api.KPtr, pointer(1, 32), parts(1, 32, 0, 1)},
	} {
		if l, e := bytes.Put(c.machine, c.kind, c.s); !slices.Equal(l, c.l) || e != api.OK {
			t.Errorf("Put(%v, %d, %+v) = %v, %d; want %v", c.machine, c.kind, c.s, l, e, c.l)
		}
		if s, bad, e := bytes.Get(c.machine, c.kind, c.l); s != c.s || bad != api.BadNone || e != api.OK {
			t.Errorf("Get(%v, %d, %v) = %+v, %d, %d; want %+v", c.machine, c.kind, c.l, s, bad, e, c.s)
		}
	}
}

// back checks P8.3 of a scalar, and its bytes against the chapter's words.
func back(t *testing.T, a api.Abi, kind int, s api.Scalar) {
	t.Helper()
	l, e := bytes.Put(a, kind, s)
	if want := written(a, kind, s); !slices.Equal(l, want) || e != api.OK {
		t.Fatalf("Put(%v, %d, %+v) = %v, %d; want %v", a, kind, s, l, e, want)
	}
	for _, b := range l {
		if bytes.Byte(b) != api.OK {
			t.Fatalf("Put(%v, %d, %+v) = %v", a, kind, s, l)
		}
	}
	if x, bad, e := bytes.Get(a, kind, l); x != s || bad != api.BadNone || e != api.OK {
		t.Fatalf("Get(%v, %d, %v) = %+v, %d, %d; want %+v", a, kind, l, x, bad, e, s)
	}
}

// P8.3: Get of Put is it: of all numbers of 8 and 16 bits, some of 32, all pointers.
func TestGetOfPut(t *testing.T) {
	for _, a := range samples.Machines() {
		for _, kind := range samples.ScalarKinds() {
			for _, s := range samples.Scalars(kind) {
				back(t, a, kind, s)
			}
		}
		for _, kind := range []int{api.KU8, api.KI8, api.KU16, api.KI16} {
			for n := range 1 << samples.Width(kind) {
				back(t, a, kind, number(n))
			}
		}
		for n := 0; n < 1<<32; n += 65537*31 + 2 {
			back(t, a, api.KU32, number(n))
			back(t, a, api.KI32, number(n))
		}
		for up := range 32 {
			back(t, a, api.KU32, number(1<<up))
			back(t, a, api.KI32, number(1<<32-1-1<<up))
		}
		for block := 1; block <= api.MaxSize; block++ {
			for off := 0; off <= api.MaxSize; off++ {
				back(t, a, api.KPtr, pointer(block, off))
			}
		}
	}
}

// P8.1, Put: machines, kinds and scalars that may not be.
func TestPutOfWrong(t *testing.T) {
	refused := func(a api.Abi, kind int, s api.Scalar) {
		t.Helper()
		if l, e := bytes.Put(a, kind, s); l != nil || e != api.ErrForm {
			t.Errorf("Put(%v, %d, %+v) = %v, %d", a, kind, s, l, e)
		}
	}
	for _, kind := range samples.ScalarKinds() {
		for _, a := range samples.NotMachines() {
			for _, s := range samples.Scalars(kind) {
				refused(a, kind, s)
			}
		}
		for _, a := range samples.Machines() {
			for _, s := range samples.NotScalars(kind) {
				refused(a, kind, s)
			}
		}
	}
	for _, kind := range samples.NotScalarKinds() {
		for _, a := range samples.Machines() {
			for _, s := range []api.Scalar{number(0), null(), pointer(1, 0)} {
				refused(a, kind, s)
			}
		}
	}
}
