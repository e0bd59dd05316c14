package maths

import (
	"cellar/api"
	"cellar/word"
)

// numbers are those of a kind.
type numbers struct {
	kind   int
	width  int
	signed bool
}

func numbersOf(kind int) (numbers, api.Errno) {
	width, e := word.Width(kind)
	if e != api.OK {
		return numbers{}, e
	}
	signed, e := word.Signed(kind)
	if e != api.OK {
		return numbers{}, e
	}
	return numbers{kind: kind, width: width, signed: signed}, api.OK
}

func (k numbers) top() int {
	return 1<<k.width - 1
}

// half is the first number whose view of a signed kind is below 0.
func (k numbers) half() int {
	return 1 << (k.width - 1)
}

// least and greatest are views of a signed kind.
func (k numbers) least() int {
	return -k.half()
}

func (k numbers) greatest() int {
	return k.half() - 1
}

// view is what a number counts as.
func (k numbers) view(n int) int {
	if !k.signed {
		return n
	}
	v, _ := word.View(n, k.width)
	return v
}

// number is the one that n is, but for multiples of 2 to the power of the width.
func (k numbers) number(n int) int {
	return n & k.top()
}
