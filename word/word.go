// Package word: numbers of so many bits: see ../../shared/doc/01-word.md.
package word

import (
	"sync"

	"cellar/api"
)

// The kept names stand beside name, on which alone an answer hangs. Calls may
// come from several goroutines: whoever asks first keeps them, the others wait.
var (
	named sync.Once
	names [api.KPtr + 1]string // by kind
)

// Width is how many bits a kind of numbers has.
func Width(kind int) (int, api.Errno) {
	if !isNumbers(kind) {
		return 0, api.ErrForm
	}
	return width(kind), api.OK
}

// Signed is whether a kind of numbers has numbers below 0.
func Signed(kind int) (bool, api.Errno) {
	if !isNumbers(kind) {
		return false, api.ErrForm
	}
	return signed(kind), api.OK
}

// Size is how many bytes a scalar of a kind has on a machine.
func Size(a api.Abi, kind int) (int, api.Errno) {
	if !isMachine(a) || !isScalar(kind) {
		return 0, api.ErrForm
	}
	if kind == api.KPtr {
		return a.Ptr, api.OK
	}
	return width(kind) / 8, api.OK
}

// Wrap is the number of width w that n is but for multiples of 2 to its power.
func Wrap(n int, w int) (int, api.Errno) {
	if !isWidth(w) {
		return 0, api.ErrForm
	}
	// An int below 0 has the bits of a number that is a multiple of that
	// power greater: so its lowest ones are what is asked for, too.
	return n & (1<<w - 1), api.OK
}

// View is the signed view of a number n of width w.
func View(n int, w int) (int, api.Errno) {
	if !isWidth(w) || n < 0 || n >= 1<<w {
		return 0, api.ErrForm
	}
	if n < 1<<(w-1) {
		return n, api.OK
	}
	return n - 1<<w, api.OK
}

// Name is what a kind of scalars is called in a text.
func Name(kind int) (string, api.Errno) {
	if !isScalar(kind) {
		return "", api.ErrNone
	}
	s := name(kind)
	named.Do(keepNames)
	if kept := names[kind]; kept == s {
		return kept, api.OK
	}
	return s, api.OK
}

// Kind is the kind of scalars that is called s.
func Kind(s string) (int, api.Errno) {
	for kind := api.KU8; kind <= api.KPtr; kind++ {
		if name(kind) == s {
			return kind, api.OK
		}
	}
	return 0, api.ErrNone
}

func isNumbers(kind int) bool {
	return kind >= api.KU8 && kind <= api.KI32
}

func isScalar(kind int) bool {
	return isNumbers(kind) || kind == api.KPtr
}

func isMachine(a api.Abi) bool {
	return a.Ptr == 2 || a.Ptr == 4
}

func isWidth(w int) bool {
	return w == 8 || w == 16 || w == 32
}

// width is asked only of kinds of numbers.
func width(kind int) int {
	switch kind {
	case api.KU8, api.KI8:
		return 8
	case api.KU16, api.KI16:
		return 16
	}
	return 32
}

// signed is asked only of kinds of numbers.
func signed(kind int) bool {
	return kind == api.KI8 || kind == api.KI16 || kind == api.KI32
}

// name is asked only of kinds of scalars.
func name(kind int) string {
	switch kind {
	case api.KU8:
		return "u8"
	case api.KI8:
		return "i8"
	case api.KU16:
		return "u16"
	case api.KI16:
		return "i16"
	case api.KU32:
		return "u32"
	case api.KI32:
		return "i32"
	}
	return "ptr"
}

func keepNames() {
	for kind := api.KU8; kind <= api.KPtr; kind++ {
		names[kind] = name(kind)
	}
}
