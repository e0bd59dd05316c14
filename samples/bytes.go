package samples

import (
	"math"
	"slices"

	"cellar/api"
)

// ScalarKinds are the kinds of scalars.
func ScalarKinds() []int {
	return append(Kinds(), api.KPtr)
}

// NotScalarKinds are no kinds of scalars.
func NotScalarKinds() []int {
	return slices.DeleteFunc(NotKinds(), func(kind int) bool { return kind == api.KPtr })
}

// Size is how many bytes a scalar of a kind has on a machine.
func Size(a api.Abi, kind int) int {
	if kind == api.KPtr {
		return a.Ptr
	}
	return Width(kind) / 8
}

// Number is a scalar.
func Number(n int) api.Scalar {
	return api.Scalar{N: n}
}

// Null is the pointer to nothing.
func Null() api.Scalar {
	return api.Scalar{Ptr: true}
}

// Pointer is one to a block.
func Pointer(block int, off int) api.Scalar {
	return api.Scalar{Ptr: true, Block: block, Off: off}
}

// Scalars are some that may be of a kind: the edges among them.
func Scalars(kind int) []api.Scalar {
	if kind == api.KPtr {
		l := []api.Scalar{{Ptr: true}}
		for _, block := range []int{1, 2, 3, 31, api.MaxSize} {
			for _, off := range []int{0, 1, 2, 31, api.MaxSize} {
				l = append(l, api.Scalar{Ptr: true, Block: block, Off: off})
			}
		}
		return l
	}
	top, half := 1<<Width(kind)-1, 1<<(Width(kind)-1)
	var l []api.Scalar
	for _, n := range []int{0, 1, 2, 100, half - 1, half, half + 1, top - 1, top, 0x12345678 & top, 0xfedcba98 & top} {
		l = append(l, api.Scalar{N: n})
	}
	return l
}

// NotScalars are scalars that may not be of a kind.
func NotScalars(kind int) []api.Scalar {
	var l []api.Scalar
	if kind == api.KPtr {
		for _, n := range []int{-1, api.MaxSize + 1, 255, math.MaxInt, math.MinInt} {
			l = append(l, api.Scalar{Ptr: true, Block: n}, api.Scalar{Ptr: true, Block: n, Off: 1}, api.Scalar{Ptr: true, Block: 1, Off: n})
		}
		for _, n := range []int{1, -1, api.MaxSize, math.MaxInt, math.MinInt} {
			l = append(l, api.Scalar{Ptr: true, N: n}, api.Scalar{Ptr: true, N: n, Block: 1}, api.Scalar{Ptr: true, Off: n}, api.Scalar{N: n})
		}
		return append(l, api.Scalar{}, api.Scalar{Block: 1}, api.Scalar{Block: 1, Off: 1})
	}
	for _, n := range []int{-1, -128, 1 << Width(kind), 1<<Width(kind) + 1, math.MaxInt, math.MinInt} {
		l = append(l, api.Scalar{N: n})
	}
	for _, n := range []int{1, -1, math.MaxInt, math.MinInt} {
		l = append(l, api.Scalar{Block: n}, api.Scalar{Off: n}, api.Scalar{N: 1, Block: n}, api.Scalar{N: 1, Off: n})
	}
	return append(l, api.Scalar{Ptr: true}, api.Scalar{Ptr: true, N: 1}, api.Scalar{Ptr: true, Block: 1})
}

// Digit is a byte of a number.
func Digit(n int) api.Byte {
	return api.Byte{State: api.IsByte, N: n}
}

// Digits are bytes of numbers.
func Digits(l ...int) []api.Byte {
	var row []api.Byte
	for _, n := range l {
		row = append(row, Digit(n))
	}
	return row
}

// Part is the i-th byte of a pointer.
func Part(block int, off int, i int) api.Byte {
	return api.Byte{State: api.IsPart, Block: block, Off: off, I: i}
}

// Parts are those of a pointer, of these places.
func Parts(block int, off int, places ...int) []api.Byte {
	var row []api.Byte
	for _, i := range places {
		row = append(row, Part(block, off, i))
	}
	return row
}

// Bytes are some that may be: the edges among them.
func Bytes() []api.Byte {
	l := []api.Byte{{}}
	for _, n := range []int{0, 1, 2, 127, 128, 254, 255} {
		l = append(l, Digit(n))
	}
	for _, block := range []int{1, 2, api.MaxSize} {
		for _, off := range []int{0, 1, api.MaxSize} {
			for i := range 4 {
				l = append(l, Part(block, off, i))
			}
		}
	}
	return l
}

// NotBytes are bytes that may not be.
func NotBytes() []api.Byte {
	l := []api.Byte{Digit(256), Part(0, 0, 0), Part(0, 1, 0), Part(1, 0, 4), Part(api.MaxSize+1, 0, 0), Part(1, api.MaxSize+1, 0)}
	for _, n := range []int{-1, 1000, math.MaxInt, math.MinInt} {
		l = append(l, Digit(n), Part(n, 0, 0), Part(1, n, 0), Part(1, 0, n))
	}
	for _, n := range []int{1, 3, -1, math.MaxInt, math.MinInt} {
		l = append(l, api.Byte{N: n}, api.Byte{State: api.IsPart, N: n, Block: 1})
		for _, b := range []api.Byte{{}, Digit(0), Digit(7)} {
			for _, more := range []api.Byte{{Block: n}, {Off: n}, {I: n}, {Block: 1, Off: n}} {
				more.State, more.N = b.State, b.N
				l = append(l, more)
			}
		}
	}
	for _, state := range []int{3, -1, 256, math.MaxInt, math.MinInt} {
		l = append(l, api.Byte{State: state}, api.Byte{State: state, N: 1}, api.Byte{State: state, Block: 1})
	}
	return l
}
