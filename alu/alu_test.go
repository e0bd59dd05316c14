package alu_test

import (
	"math"
	"math/big"
	"sync"
	"testing"

	"cellar/alu"
	"cellar/api"
)

// The face: each line stops compiling if a signature changes.
var (
	_ func(int, int, int, int) (int, int, api.Errno) = alu.Two
	_ func(int, int, int) (int, int, api.Errno)      = alu.One
	_ func(int, int, int) (int, api.Errno)           = alu.Cast
)

type kindCase struct {
	kind   int
	width  int
	signed bool
}

func kinds() []kindCase {
	return []kindCase{
		{api.KU8, 8, false}, {api.KI8, 8, true},
		{api.KU16, 16, false}, {api.KI16, 16, true},
		{api.KU32, 32, false}, {api.KI32, 32, true},
	}
}

// notKinds are no kinds of numbers.
func notKinds() []int {
	return []int{api.KNone, api.KPtr, api.KArray, api.KStruct, api.KUnion, api.KPart, -1, 12, 99, math.MaxInt, math.MinInt}
}

// two and one are all operators of two numbers, of one.
func two() []int {
	return []int{api.EAdd, api.ESub, api.EMul, api.EDiv, api.ERem, api.EAnd, api.EOr, api.EXor, api.EShl, api.EShr, api.EEq, api.ELess}
}

func one() []int {
	return []int{api.ENeg, api.ENot, api.EZero}
}

// notOps are no operators of numbers at all.
func notOps() []int {
	return []int{api.ENone, api.ENum, api.EAddr, api.ELoad, api.ECast, api.EMove, api.EApart, api.ESame, 23, 99, -1, math.MaxInt, math.MinInt}
}

// notNumbers are no numbers of a width.
func notNumbers(width int) []int {
	return []int{-1, -1 << (width - 1), 1 << width, 1<<width + 1, math.MaxInt, math.MinInt}
}

// numbersOf are all numbers of 8 bits, or those about each edge of more.
func numbersOf(width int) []int {
	var l []int
	if width == 8 {
		for n := range 256 {
			l = append(l, n)
		}
		return l
	}
	seen := map[int]bool{}
	add := func(n int) {
		if n >= 0 && n < 1<<width && !seen[n] {
			seen[n] = true
			l = append(l, n)
		}
	}
	for n := range 40 {
		add(n)
		add(1<<width - 1 - n)
	}
	for i := range width + 1 {
		for d := -2; d <= 2; d++ {
			add(1<<i + d)
		}
	}
	add(0x5555_5555 & (1<<width - 1))
	add(0xAAAA_AAAA & (1<<width - 1))
	add(0xDEAD_BEEF & (1<<width - 1))
	return l
}

func view(c kindCase, n int) int {
	if c.signed && n >= 1<<(c.width-1) {
		return n - 1<<c.width
	}
	return n
}

// wrapped is the number of a width, of whole numbers without an end.
func wrapped(n *big.Int, width int) int {
	power := new(big.Int).Lsh(big.NewInt(1), uint(width))
	return int(new(big.Int).Mod(n, power).Int64())
}

// fits is P2.1's sums: of a signed kind only what is a view of its width.
func fits(c kindCase, n *big.Int) (int, int) {
	half := new(big.Int).Lsh(big.NewInt(1), uint(c.width-1))
	if c.signed && (n.Cmp(half) >= 0 || n.Cmp(new(big.Int).Neg(half)) < 0) {
		return 0, api.BadOver
	}
	return wrapped(n, c.width), api.BadNone
}

func number(is bool) int {
	if is {
		return 1
	}
	return 0
}

// wantTwo is P2.1 once more, by numbers without an end.
func wantTwo(op int, c kindCase, a, b int) (int, int) {
	u, v := view(c, a), view(c, b)
	x, y := big.NewInt(int64(u)), big.NewInt(int64(v))
	switch op {
	case api.EAdd:
		return fits(c, new(big.Int).Add(x, y))
	case api.ESub:
		return fits(c, new(big.Int).Sub(x, y))
	case api.EMul:
		return fits(c, new(big.Int).Mul(x, y))
	case api.EDiv, api.ERem:
		if b == 0 {
			return 0, api.BadZero
		}
		if c.signed && a == 1<<(c.width-1) && b == 1<<c.width-1 {
			return 0, api.BadOver
		}
		quotient, rest := new(big.Int).QuoRem(x, y, new(big.Int))
		if op == api.EDiv {
			return wrapped(quotient, c.width), api.BadNone
		}
		return wrapped(rest, c.width), api.BadNone
	case api.EAnd:
		return a & b, api.BadNone
	case api.EOr:
		return a | b, api.BadNone
	case api.EXor:
		return a ^ b, api.BadNone
	case api.EShl, api.EShr:
		if v < 0 || v >= c.width {
			return 0, api.BadShift
		}
		if op == api.EShl {
			return wrapped(new(big.Int).Lsh(big.NewInt(int64(a)), uint(v)), c.width), api.BadNone
		}
		return wrapped(new(big.Int).Rsh(x, uint(v)), c.width), api.BadNone
	case api.EEq:
		return number(u == v), api.BadNone
	}
	return number(u < v), api.BadNone
}

// P2.1, all operators of all kinds: all pairs of 8 bits, edges of more.
func TestTwo(t *testing.T) {
	for _, c := range kinds() {
		l := numbersOf(c.width)
		for _, op := range two() {
			for _, a := range l {
				for _, b := range l {
					want, wantBad := wantTwo(op, c, a, b)
					if n, bad, e := alu.Two(op, c.kind, a, b); n != want || bad != wantBad || e != api.OK {
						t.Fatalf("Two(%d, %d, %d, %d) = %d, %d, %d; want %d, %d", op, c.kind, a, b, n, bad, e, want, wantBad)
					}
				}
			}
		}
	}
}

// P2.1, written out: each operator's edges, as the chapter has them.
func TestTwoEdges(t *testing.T) {
	const least8, least16, least32 = 1 << 7, 1 << 15, 1 << 31
	const less8, less16, less32 = 1<<8 - 1, 1<<16 - 1, 1<<32 - 1 // -1
	for _, c := range []struct{ op, kind, a, b, n, bad int }{
		{api.EAdd, api.KI8, 100, 100, 0, api.BadOver},
		{api.EAdd, api.KI8, 100, 27, 127, api.BadNone},
		{api.EAdd, api.KI8, 100, 28, 0, api.BadOver},
		{api.EAdd, api.KI8, least8, less8, 0, api.BadOver},
		{api.EAdd, api.KI8, least8, 127, less8, api.BadNone},
		{api.EAdd, api.KU8, 255, 1, 0, api.BadNone},
		{api.EAdd, api.KU32, less32, less32, less32 - 1, api.BadNone},
		{api.EAdd, api.KI32, 1<<31 - 1, 1, 0, api.BadOver},
		{api.ESub, api.KU16, 0, 1, less16, api.BadNone},
		{api.ESub, api.KI16, 0, least16, 0, api.BadOver},
		{api.ESub, api.KI16, less16, least16, 1<<15 - 1, api.BadNone},
		{api.EMul, api.KU32, less32, less32, 1, api.BadNone},
		{api.EMul, api.KU32, less32, less32 - 1, 2, api.BadNone},
		{api.EMul, api.KI32, least32, less32, 0, api.BadOver},
		{api.EMul, api.KI32, least32, least32, 0, api.BadOver},
		{api.EMul, api.KI32, 1 << 16, 1 << 15, 0, api.BadOver},
		{api.EMul, api.KI32, 1 << 16, 1<<32 - 1<<15, least32, api.BadNone},
		{api.EDiv, api.KI8, 256 - 7, 2, 256 - 3, api.BadNone},
		{api.EDiv, api.KI8, 7, 256 - 2, 256 - 3, api.BadNone},
		{api.EDiv, api.KI32, least32, less32, 0, api.BadOver},
		{api.EDiv, api.KI32, least32, 1, least32, api.BadNone},
		{api.EDiv, api.KU32, least32, less32, 0, api.BadNone},
		{api.EDiv, api.KU32, less32, 2, 1<<31 - 1, api.BadNone},
		{api.EDiv, api.KI32, least32, 0, 0, api.BadZero},
		{api.EDiv, api.KU8, 0, 0, 0, api.BadZero},
		{api.ERem, api.KI8, 256 - 7, 2, less8, api.BadNone},
		{api.ERem, api.KI8, 7, 256 - 2, 1, api.BadNone},
		{api.ERem, api.KI8, least8, less8, 0, api.BadOver},
		{api.ERem, api.KI8, 129, less8, 0, api.BadNone},
		{api.ERem, api.KU8, least8, less8, least8, api.BadNone},
		{api.ERem, api.KI16, 5, 0, 0, api.BadZero},
		{api.EAnd, api.KI8, 0b1100, 0b1010, 0b1000, api.BadNone},
		{api.EOr, api.KU8, 0b1100, 0b1010, 0b1110, api.BadNone},
		{api.EXor, api.KI32, less32, 0b1010, less32 - 0b1010, api.BadNone},
		{api.EShl, api.KU8, 255, 7, 128, api.BadNone},
		{api.EShl, api.KU8, 255, 8, 0, api.BadShift},
		{api.EShl, api.KI8, 127, 1, 254, api.BadNone},
		{api.EShl, api.KI8, 1, less8, 0, api.BadShift},
		{api.EShl, api.KI32, less32, 31, least32, api.BadNone},
		{api.EShl, api.KI32, less32, 32, 0, api.BadShift},
		{api.EShr, api.KI8, least8, 7, less8, api.BadNone},
		{api.EShr, api.KU8, least8, 7, 1, api.BadNone},
		{api.EShr, api.KI16, least16, 0, least16, api.BadNone},
		{api.EShr, api.KI32, least32, less32, 0, api.BadShift},
		{api.EShr, api.KU32, less32, 31, 1, api.BadNone},
		{api.EShr, api.KU32, less32, less32, 0, api.BadShift},
		{api.EEq, api.KU8, less8, less8, 1, api.BadNone},
		{api.EEq, api.KI8, less8, 1, 0, api.BadNone},
		{api.ELess, api.KI8, less8, 0, 1, api.BadNone},
		{api.ELess, api.KU8, less8, 0, 0, api.BadNone},
		{api.ELess, api.KI32, least32, 1<<31 - 1, 1, api.BadNone},
		{api.ELess, api.KU32, least32, 1<<31 - 1, 0, api.BadNone},
		{api.ELess, api.KU32, 5, 5, 0, api.BadNone},
	} {
		if n, bad, e := alu.Two(c.op, c.kind, c.a, c.b); n != c.n || bad != c.bad || e != api.OK {
			t.Errorf("Two(%d, %d, %d, %d) = %d, %d, %d; want %d, %d", c.op, c.kind, c.a, c.b, n, bad, e, c.n, c.bad)
		}
	}
}

// P2.1, wrong inputs: what is no operator of two, no kind of numbers, no number of its width.
func TestTwoForm(t *testing.T) {
	refuse := func(op, kind, a, b int) {
		if n, bad, e := alu.Two(op, kind, a, b); n != 0 || bad != 0 || e != api.ErrForm {
			t.Errorf("Two(%d, %d, %d, %d) = %d, %d, %d; want ErrForm", op, kind, a, b, n, bad, e)
		}
	}
	for _, c := range kinds() {
		for _, op := range append(notOps(), one()...) {
			refuse(op, c.kind, 1, 1)
			refuse(op, c.kind, 1, 0)
		}
		for _, op := range two() {
			for _, n := range notNumbers(c.width) {
				refuse(op, c.kind, n, 1)
				refuse(op, c.kind, 1, n)
				refuse(op, c.kind, n, 0)
				refuse(op, c.kind, n, n)
			}
		}
	}
	for _, kind := range notKinds() {
		for _, op := range append(notOps(), two()...) {
			refuse(op, kind, 1, 1)
			refuse(op, kind, 0, 0)
		}
	}
}

// wantOne is P2.2 once more.
func wantOne(op int, c kindCase, a int) (int, int) {
	switch op {
	case api.ENeg:
		return fits(c, big.NewInt(int64(-view(c, a))))
	case api.ENot:
		return 1<<c.width - 1 - a, api.BadNone
	}
	return number(a == 0), api.BadNone
}

// P2.2, One: all numbers of 8 and 16 bits, edges of 32.
func TestOne(t *testing.T) {
	for _, c := range kinds() {
		l := numbersOf(c.width)
		if c.width == 16 {
			l = nil
			for n := range 1 << 16 {
				l = append(l, n)
			}
		}
		for _, op := range one() {
			for _, a := range l {
				want, wantBad := wantOne(op, c, a)
				if n, bad, e := alu.One(op, c.kind, a); n != want || bad != wantBad || e != api.OK {
					t.Fatalf("One(%d, %d, %d) = %d, %d, %d; want %d, %d", op, c.kind, a, n, bad, e, want, wantBad)
				}
			}
		}
	}
}

// P2.2, One, written out.
func TestOneEdges(t *testing.T) {
	for _, c := range []struct{ op, kind, a, n, bad int }{
		{api.ENeg, api.KI8, 128, 0, api.BadOver},
		{api.ENeg, api.KI8, 127, 129, api.BadNone},
		{api.ENeg, api.KI8, 255, 1, api.BadNone},
		{api.ENeg, api.KI32, 1 << 31, 0, api.BadOver},
		{api.ENeg, api.KU32, 1 << 31, 1 << 31, api.BadNone},
		{api.ENeg, api.KU8, 1, 255, api.BadNone},
		{api.ENeg, api.KU16, 0, 0, api.BadNone},
		{api.ENot, api.KI16, 0, 65535, api.BadNone},
		{api.ENot, api.KU32, 1, 1<<32 - 2, api.BadNone},
		{api.EZero, api.KU8, 0, 1, api.BadNone},
		{api.EZero, api.KI32, 1 << 31, 0, api.BadNone},
		{api.EZero, api.KI8, 255, 0, api.BadNone},
	} {
		if n, bad, e := alu.One(c.op, c.kind, c.a); n != c.n || bad != c.bad || e != api.OK {
			t.Errorf("One(%d, %d, %d) = %d, %d, %d; want %d, %d", c.op, c.kind, c.a, n, bad, e, c.n, c.bad)
		}
	}
}

// P2.2, One, wrong inputs.
func TestOneForm(t *testing.T) {
	refuse := func(op, kind, a int) {
		if n, bad, e := alu.One(op, kind, a); n != 0 || bad != 0 || e != api.ErrForm {
			t.Errorf("One(%d, %d, %d) = %d, %d, %d; want ErrForm", op, kind, a, n, bad, e)
		}
	}
	for _, c := range kinds() {
		for _, op := range append(notOps(), two()...) {
			refuse(op, c.kind, 1)
			refuse(op, c.kind, 0)
		}
		for _, op := range one() {
			for _, n := range notNumbers(c.width) {
				refuse(op, c.kind, n)
			}
		}
	}
	for _, kind := range notKinds() {
		for _, op := range append(notOps(), one()...) {
			refuse(op, kind, 0)
			refuse(op, kind, 1)
		}
	}
}

// P2.2, Cast between all kinds.
func TestCast(t *testing.T) {
	for _, from := range kinds() {
		for _, to := range kinds() {
			for _, a := range numbersOf(from.width) {
				want := wrapped(big.NewInt(int64(view(from, a))), to.width)
				if n, e := alu.Cast(from.kind, to.kind, a); n != want || e != api.OK {
					t.Fatalf("Cast(%d, %d, %d) = %d, %d; want %d", from.kind, to.kind, a, n, e, want)
				}
			}
		}
	}
}

// P2.2, Cast, written out: the sign goes along only from a signed kind.
func TestCastEdges(t *testing.T) {
	for _, c := range []struct{ from, to, a, n int }{
		{api.KI8, api.KU32, 255, 1<<32 - 1},
		{api.KI8, api.KI16, 128, 65408},
		{api.KU8, api.KI32, 255, 255},
		{api.KU8, api.KI8, 255, 255},
		{api.KI32, api.KI8, 1<<32 - 1, 255},
		{api.KU32, api.KU8, 0x12345678, 0x78},
		{api.KI16, api.KU32, 1 << 15, 1<<32 - 1<<15},
		{api.KU16, api.KI32, 1 << 15, 1 << 15},
	} {
		if n, e := alu.Cast(c.from, c.to, c.a); n != c.n || e != api.OK {
			t.Errorf("Cast(%d, %d, %d) = %d, %d; want %d", c.from, c.to, c.a, n, e, c.n)
		}
	}
}

// P2.2, Cast, wrong inputs: the number is to be one of from's width, not of to's.
func TestCastForm(t *testing.T) {
	refuse := func(from, to, a int) {
		if n, e := alu.Cast(from, to, a); n != 0 || e != api.ErrForm {
			t.Errorf("Cast(%d, %d, %d) = %d, %d; want ErrForm", from, to, a, n, e)
		}
	}
	for _, c := range kinds() {
		for _, kind := range notKinds() {
			refuse(c.kind, kind, 1)
			refuse(kind, c.kind, 1)
			refuse(kind, kind, 0)
		}
		for _, to := range kinds() {
			for _, n := range notNumbers(c.width) {
				refuse(c.kind, to.kind, n)
			}
		}
	}
}

// P2.3: sums of unsigned kinds never go wrong.
func TestUnsignedSums(t *testing.T) {
	for _, c := range kinds() {
		if c.signed {
			continue
		}
		for _, a := range numbersOf(c.width) {
			for _, b := range numbersOf(c.width) {
				for _, op := range []int{api.EAdd, api.ESub, api.EMul} {
					if n, bad, e := alu.Two(op, c.kind, a, b); bad != api.BadNone || e != api.OK || n < 0 || n >= 1<<c.width {
						t.Fatalf("Two(%d, %d, %d, %d) = %d, %d, %d", op, c.kind, a, b, n, bad, e)
					}
				}
			}
		}
	}
}

// R1: calls have nothing in common, whoever makes them.
func TestTogether(t *testing.T) {
	var all sync.WaitGroup
	for i := range 32 {
		all.Add(1)
		go func() {
			defer all.Done()
			n, bad, e := alu.Two(api.EDiv, api.KI32, 1<<31, i)
			want, wantBad := wantTwo(api.EDiv, kindCase{api.KI32, 32, true}, 1<<31, i)
			if n != want || bad != wantBad || e != api.OK {
				t.Errorf("Two(EDiv, KI32, least, %d) = %d, %d, %d; want %d, %d", i, n, bad, e, want, wantBad)
			}
		}()
	}
	all.Wait()
}
