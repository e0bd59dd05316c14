package word_test

import (
	"math"
	"sync"
	"testing"

	"cellar/api"
	"cellar/samples"
	"cellar/word"
)

// The face: each line stops compiling if a signature changes.
var (
	_ func(int) (int, api.Errno)          = word.Width
	_ func(int) (bool, api.Errno)         = word.Signed
	_ func(api.Abi, int) (int, api.Errno) = word.Size
	_ func(int, int) (int, api.Errno)     = word.Wrap
	_ func(int, int) (int, api.Errno)     = word.View
	_ func(int) (string, api.Errno)       = word.Name
	_ func(string) (int, api.Errno)       = word.Kind
)

type kindCase struct {
	kind   int
	width  int
	signed bool
	name   string
}

func numberKinds() []kindCase {
	return []kindCase{
		{api.KU8, 8, false, "u8"},
		{api.KI8, 8, true, "i8"},
		{api.KU16, 16, false, "u16"},
		{api.KI16, 16, true, "i16"},
		{api.KU32, 32, false, "u32"},
		{api.KI32, 32, true, "i32"},
	}
}

// notScalars are no kinds of scalars: those of types and cells, too.
func notScalars() []int {
	return []int{api.KNone, api.KArray, api.KStruct, api.KUnion, api.KPart, -1, 12, 99, math.MaxInt, math.MinInt}
}

func notWidths() []int {
	return []int{0, 1, 7, 9, 15, 24, 31, 33, 63, 64, 65, -8, -16, -32, math.MaxInt, math.MinInt}
}

// P1.1, Width.
func TestWidth(t *testing.T) {
	for _, c := range numberKinds() {
		if w, e := word.Width(c.kind); w != c.width || e != api.OK {
			t.Errorf("Width(%d) = %d, %d; want %d", c.kind, w, e, c.width)
		}
	}
	for _, kind := range append(notScalars(), api.KPtr) {
		if w, e := word.Width(kind); w != 0 || e != api.ErrForm {
			t.Errorf("Width(%d) = %d, %d; want ErrForm", kind, w, e)
		}
	}
}

// P1.1, Signed.
func TestSigned(t *testing.T) {
	for _, c := range numberKinds() {
		if is, e := word.Signed(c.kind); is != c.signed || e != api.OK {
			t.Errorf("Signed(%d) = %v, %d; want %v", c.kind, is, e, c.signed)
		}
	}
	for _, kind := range append(notScalars(), api.KPtr) {
		if is, e := word.Signed(kind); is || e != api.ErrForm {
			t.Errorf("Signed(%d) = %v, %d; want ErrForm", kind, is, e)
		}
	}
}

// P1.1, Size: the machine tells a pointer's alone.
func TestSize(t *testing.T) {
	for _, a := range samples.Machines() {
		for _, c := range numberKinds() {
			if n, e := word.Size(a, c.kind); n != c.width/8 || e != api.OK {
				t.Errorf("Size(%v, %d) = %d, %d; want %d", a, c.kind, n, e, c.width/8)
			}
		}
		if n, e := word.Size(a, api.KPtr); n != a.Ptr || e != api.OK {
			t.Errorf("Size(%v, KPtr) = %d, %d; want %d", a, n, e, a.Ptr)
		}
	}
}

// P1.1, Size of what is wrong: the machine, the kind, both.
func TestSizeForm(t *testing.T) {
	for _, a := range samples.Machines() {
		for _, kind := range notScalars() {
			if n, e := word.Size(a, kind); n != 0 || e != api.ErrForm {
				t.Errorf("Size(%v, %d) = %d, %d; want ErrForm", a, kind, n, e)
			}
		}
	}
	for _, a := range samples.NotMachines() {
		for _, kind := range append(notScalars(), api.KU8, api.KI32, api.KPtr) {
			if n, e := word.Size(a, kind); n != 0 || e != api.ErrForm {
				t.Errorf("Size(%v, %d) = %d, %d; want ErrForm", a, kind, n, e)
			}
		}
	}
}

// P1.1, Wrap, held against the numbers of the language that have that width.
func TestWrap(t *testing.T) {
	edges := []int{math.MinInt, math.MinInt + 1, math.MaxInt - 1, math.MaxInt}
	for i := 0; i < 63; i++ {
		for d := -2; d <= 2; d++ {
			edges = append(edges, 1<<i+d, -1<<i+d)
		}
	}
	for n := -70000; n <= 70000; n++ {
		edges = append(edges, n)
	}
	for _, n := range edges {
		for w, want := range map[int]int{8: int(uint8(n)), 16: int(uint16(n)), 32: int(uint32(n))} {
			if m, e := word.Wrap(n, w); m != want || e != api.OK {
				t.Errorf("Wrap(%d, %d) = %d, %d; want %d", n, w, m, e, want)
			}
		}
	}
}

// P1.1, Wrap and View of no width.
func TestNoWidth(t *testing.T) {
	for _, w := range notWidths() {
		for _, n := range []int{0, 1, 5, -1, math.MaxInt, math.MinInt} {
			if m, e := word.Wrap(n, w); m != 0 || e != api.ErrForm {
				t.Errorf("Wrap(%d, %d) = %d, %d; want ErrForm", n, w, m, e)
			}
			if v, e := word.View(n, w); v != 0 || e != api.ErrForm {
				t.Errorf("View(%d, %d) = %d, %d; want ErrForm", n, w, v, e)
			}
		}
	}
}

// P1.1, View of all numbers of 8 and 16 bits, and of the edges of 32.
func TestView(t *testing.T) {
	check := func(n, w, want int) {
		if v, e := word.View(n, w); v != want || e != api.OK {
			t.Errorf("View(%d, %d) = %d, %d; want %d", n, w, v, e, want)
		}
	}
	for n := 0; n < 1<<8; n++ {
		check(n, 8, int(int8(uint8(n))))
	}
	for n := 0; n < 1<<16; n++ {
		check(n, 16, int(int16(uint16(n))))
	}
	check(0, 32, 0)
	check(1<<16, 32, 1<<16)
	check(1<<31-1, 32, 1<<31-1)
	check(1<<31, 32, -1<<31)
	check(1<<31+1, 32, -1<<31+1)
	check(1<<32-1, 32, -1)
}

// P1.1, View of what is no number of the width.
func TestViewForm(t *testing.T) {
	for _, w := range []int{8, 16, 32} {
		for _, n := range []int{-1, -1 << (w - 1), 1 << w, 1<<w + 1, math.MaxInt, math.MinInt} {
			if v, e := word.View(n, w); v != 0 || e != api.ErrForm {
				t.Errorf("View(%d, %d) = %d, %d; want ErrForm", n, w, v, e)
			}
		}
	}
}

// P1.2, Name and Kind of all kinds of scalars.
func TestNames(t *testing.T) {
	for _, c := range append(numberKinds(), kindCase{kind: api.KPtr, name: "ptr"}) {
		if s, e := word.Name(c.kind); s != c.name || e != api.OK {
			t.Errorf("Name(%d) = %q, %d; want %q", c.kind, s, e, c.name)
		}
		if kind, e := word.Kind(c.name); kind != c.kind || e != api.OK {
			t.Errorf("Kind(%q) = %d, %d; want %d", c.name, kind, e, c.kind)
		}
	}
}

// P1.2, Name and Kind of what is none.
func TestNoNames(t *testing.T) {
	for _, kind := range notScalars() {
		if s, e := word.Name(kind); s != "" || e != api.ErrNone {
			t.Errorf("Name(%d) = %q, %d; want ErrNone", kind, s, e)
		}
	}
	for _, s := range []string{"", "u", "i", "8", "p", "ptr2", "pt", "u64", "i64", "U8", "PTR", " u8", "u8 ", "u08", "u8\x00", "int", "none", "struct", "union", "\xff"} {
		if kind, e := word.Kind(s); kind != 0 || e != api.ErrNone {
			t.Errorf("Kind(%q) = %d, %d; want ErrNone", s, kind, e)
		}
	}
}

// P1.3: Wrap of a view is the number.
func TestWrapOfView(t *testing.T) {
	check := func(n, w int) {
		v, e := word.View(n, w)
		m, f := word.Wrap(v, w)
		if m != n || e != api.OK || f != api.OK {
			t.Errorf("Wrap(View(%d, %d)) = %d, by %d (%d, %d)", n, w, m, v, e, f)
		}
	}
	for n := 0; n < 1<<8; n++ {
		check(n, 8)
	}
	for n := 0; n < 1<<16; n++ {
		check(n, 16)
	}
	for n := 0; n < 1<<32; n += 65537 {
		check(n, 32)
	}
	for _, n := range []int{1<<31 - 1, 1 << 31, 1<<31 + 1, 1<<32 - 1} {
		check(n, 32)
	}
}

// R1: how goroutines take turns is not to be seen, whoever makes the names.
func TestNamesTogether(t *testing.T) {
	var all sync.WaitGroup
	for range 32 {
		all.Add(1)
		go func() {
			defer all.Done()
			kind, e := word.Kind("i16")
			s, f := word.Name(api.KPtr)
			if kind != api.KI16 || s != "ptr" || e != api.OK || f != api.OK {
				t.Errorf("Kind(i16) = %d, %d; Name(KPtr) = %q, %d", kind, e, s, f)
			}
		}()
	}
	all.Wait()
}
