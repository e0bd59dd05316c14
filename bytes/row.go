package bytes

import (
	"sync"
	"sync/atomic"

	"cellar/api"
)

// What a row's bytes are counted by; one byte may count for more than one.
const (
	nothings = iota
	parts
	zeros
	follow // the parts of the first one's pointer, each at its own place
	counts // how many of these there are
)

// row is what one Get is of: bytes that may be, as many as a scalar has on a machine.
type row struct {
	machine api.Abi
	bytes   []api.Byte

	counted sync.Once // all counts hang on the same bytes
	count   [counts]atomic.Int32
}

// has is how many bytes of the row are such.
func (r *row) has(what int) int {
	r.counted.Do(r.countAll)
	return int(r.count[what].Load())
}

// all is whether the row has no other bytes.
func (r *row) all(what int) bool {
	return r.has(what) == len(r.bytes)
}

func (r *row) countAll() {
	for i, b := range r.bytes {
		switch b.State {
		case api.IsNothing:
			r.count[nothings].Add(1)
		case api.IsPart:
			r.count[parts].Add(1)
		}
		switch b {
		case digit(0, 0):
			r.count[zeros].Add(1)
		case part(r.first(), i):
			r.count[follow].Add(1)
		}
	}
}

// number is asked only of a row in which no byte is nothing.
func (r *row) number() (s api.Scalar, bad int) {
	if r.has(parts) > 0 {
		return api.Scalar{}, api.BadMixed
	}
	for i, b := range r.bytes {
		s.N += b.N << weight(r.machine, len(r.bytes), i)
	}
	return s, api.BadNone
}

// pointer is what a row is as a pointer.
func (r *row) pointer() (s api.Scalar, bad int) {
	if r.all(zeros) {
		return api.Scalar{Ptr: true}, api.BadNone
	}
	if r.all(follow) {
		return r.first(), api.BadNone
	}
	return api.Scalar{}, api.BadMixed
}

// first is the pointer of which the first byte is a part, if it is one.
func (r *row) first() api.Scalar {
	b := r.bytes[0]
	return api.Scalar{Ptr: true, Block: b.Block, Off: b.Off}
}

// part is the byte at place i of a pointer that is not null.
func part(p api.Scalar, i int) api.Byte {
	return api.Byte{State: api.IsPart, Block: p.Block, Off: p.Off, I: i}
}

// digit is the byte of a number that counts so many bits up.
func digit(n int, up int) api.Byte {
	return api.Byte{State: api.IsByte, N: n >> up & 255}
}

// weight is how many bits up the byte at place i counts in a number of so many bytes.
func weight(a api.Abi, size int, i int) int {
	if a.Big {
		i = size - 1 - i
	}
	return 8 * i
}
