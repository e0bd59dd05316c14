package samples

import (
	"math"
	"slices"

	"cellar/api"
)

// Room is a block that is Alive, of these bytes.
func Room(l ...api.Byte) api.Block {
	return api.Block{State: api.Alive, Bytes: l}
}

// Memory is null's block, and these.
func Memory(l ...api.Block) []api.Block {
	return append([]api.Block{{}}, l...)
}

// Memories are some that may be: the edges among them.
func Memories() [][]api.Block {
	full := Room(slices.Repeat([]api.Byte{Digit(255)}, api.MaxSize)...)
	mixed := Room(Digit(1), Digit(2), api.Byte{}, Digit(4), Part(1, 2, 0), Part(1, 2, 1), Part(1, 2, 2), Part(1, 2, 3), Digit(0), Digit(0), Digit(0), Digit(0), Part(1, 2, 0))
	l := [][]api.Block{
		Memory(),
		{{Bytes: []api.Byte{}}},
		Memory(Room()),
		Memory(full),
		Memory(Room(make([]api.Byte, api.MaxSize)...)),
		Memory(mixed, full, Room(Bytes()[:30]...)),
		Memory(api.Block{}, api.Block{State: api.Freed}, api.Block{State: api.Failed}, mixed),
		Memory(Room(Digit(0)), api.Block{State: api.Freed, Bytes: []api.Byte{}}),
		Memory(slices.Repeat([]api.Block{mixed}, api.MaxSize)...),
		Memory(slices.Repeat([]api.Block{full}, api.MaxSize)...),
	}
	for _, b := range Bytes() {
		l = append(l, Memory(Room(b)), Memory(Room(Digit(0), b), Room(b, b)))
	}
	return l
}

// NotMemories are memories that may not be, each but for one thing.
func NotMemories() [][]api.Block {
	fine := Room(Digit(1), Digit(2), Digit(3), Digit(4))
	l := [][]api.Block{
		nil,
		{},
		{fine},
		{{Bytes: []api.Byte{Digit(0)}}},
		{{Bytes: []api.Byte{{}}}, fine},
		Memory(Room(make([]api.Byte, api.MaxSize+1)...)),
		Memory(fine, Room(slices.Repeat([]api.Byte{Digit(0)}, 1000)...)),
		Memory(slices.Repeat([]api.Block{fine}, api.MaxSize+1)...),
		make([]api.Block, api.MaxSize+2),
		make([]api.Block, 1000),
	}
	for _, state := range []int{api.Alive, api.Freed, api.Failed, 4, -1, math.MaxInt, math.MinInt} {
		l = append(l, []api.Block{{State: state}}, []api.Block{{State: state}, fine})
	}
	for _, state := range []int{4, 5, -1, 256, math.MaxInt, math.MinInt} {
		l = append(l, Memory(api.Block{State: state}), Memory(fine, api.Block{State: state}), Memory(api.Block{State: state, Bytes: fine.Bytes}, fine))
	}
	for _, state := range []int{api.NotYet, api.Freed, api.Failed} {
		for _, row := range [][]api.Byte{{{}}, {Digit(0)}, fine.Bytes, make([]api.Byte, api.MaxSize)} {
			l = append(l, Memory(api.Block{State: state, Bytes: row}), Memory(fine, api.Block{State: state, Bytes: row}))
		}
	}
	for _, b := range NotBytes() {
		l = append(l, Memory(Room(b)), Memory(fine, Room(Digit(0), Digit(0), Digit(0), b)))
	}
	return l
}
