package bytes

import (
	"cellar/api"
	"cellar/word"
)

func isScalar(kind int, s api.Scalar) bool {
	if kind == api.KPtr {
		return isPointer(s)
	}
	return isNumber(kind, s)
}

func isNumber(kind int, s api.Scalar) bool {
	width, e := word.Width(kind)
	if e != api.OK {
		return false
	}
	n, e := word.Wrap(s.N, width)
	return e == api.OK && s == api.Scalar{N: n}
}

func isPointer(s api.Scalar) bool {
	if s.Block == 0 {
		return s == api.Scalar{Ptr: true}
	}
	return s.Ptr && s.N == 0 && isPlace(s.Block, s.Off)
}

// isPlace is whether there may be a block, which is not null's, and an offset in it.
func isPlace(block int, off int) bool {
	return isUpTo(block, 1, api.MaxSize) && isUpTo(off, 0, api.MaxSize)
}

func isByte(b api.Byte) bool {
	switch b.State {
	case api.IsNothing:
		return b == api.Byte{State: api.IsNothing}
	case api.IsByte:
		return b == digit(b.N, 0)
	case api.IsPart:
		return b.N == 0 && isPlace(b.Block, b.Off) && isUpTo(b.I, 0, 3)
	}
	return false
}

func areBytes(l []api.Byte) bool {
	for _, b := range l {
		if !isByte(b) {
			return false
		}
	}
	return true
}

func isUpTo(n int, least int, most int) bool {
	return n >= least && n <= most
}
