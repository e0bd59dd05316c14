package mem

import (
	"slices"
	"sync"
	"sync/atomic"

	"cellar/api"
	"cellar/bytes"
)

// width is that of KI32, of which kind is how far pointers move or are apart.
const width = 32

// memory is what one call is of.
type memory struct {
	blocks []api.Block

	looked  sync.Once    // a call may ask of more than one pointer into it
	strange atomic.Int32 // how many of the blocks may not be
}

func take(m []api.Block) *memory {
	return &memory{blocks: m}
}

// mayBe is false of no blocks at all, too: null's is always there.
func (m *memory) mayBe() bool {
	if len(m.blocks) < 1 || len(m.blocks) > api.MaxSize+1 {
		return false
	}
	m.looked.Do(m.countStrange)
	return m.strange.Load() == 0
}

func (m *memory) countStrange() {
	for i, b := range m.blocks {
		if !isBlock(b) || i == 0 && b.State != api.NotYet {
			m.strange.Add(1)
		}
	}
}

// has is whether p is a pointer that may be to a block there is, in memory that may be.
func (m *memory) has(p api.Scalar) bool {
	return m.mayBe() && isPointer(p) && p.Block < len(m.blocks)
}

// block, as isAlive and reach, is asked only of a pointer that the memory has.
func (m *memory) block(p api.Scalar) api.Block {
	return m.blocks[p.Block]
}

func (m *memory) isAlive(p api.Scalar) bool {
	return m.block(p).State == api.Alive
}

// reach is what goes wrong with a scalar of so many bytes at p, whatever they are.
func (m *memory) reach(p api.Scalar, size int) int {
	switch {
	case !m.isAlive(p):
		return api.BadNull
	case p.Off+size > len(m.block(p).Bytes):
		return api.BadBounds
	case p.Off%size != 0:
		return api.BadAlign
	}
	return api.BadNone
}

func (m *memory) copy() []api.Block {
	l := slices.Clone(m.blocks)
	for i := range l {
		l[i].Bytes = slices.Clone(l[i].Bytes)
	}
	return l
}

func isPointer(p api.Scalar) bool {
	return bytes.Check(api.KPtr, p) == api.OK
}

func isBlock(b api.Block) bool {
	switch b.State {
	case api.NotYet, api.Freed, api.Failed:
		return len(b.Bytes) == 0
	case api.Alive:
		return len(b.Bytes) <= api.MaxSize && areBytes(b.Bytes)
	}
	return false
}

func areBytes(l []api.Byte) bool {
	for _, b := range l {
		if bytes.Byte(b) != api.OK {
			return false
		}
	}
	return true
}
