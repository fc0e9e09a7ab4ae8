package window

import (
	"math/bits"

	"crier/api"
)

// A block has as many numbers as a word has bits.
const (
	blockSize = 64
	blocks    = (api.MaxID + blockSize) / blockSize
)

// numbers: a set of packet numbers, a bit each, so that a number that isn't in it is found soon, however many are. A block without a number isn't kept.
type numbers struct{ words map[int]uint64 }

func isID(id int) bool { return id >= 1 && id <= api.MaxID }

// bit tells the word that has a number's bit alone.
func bit(id int) uint64 { return 1 << (id % blockSize) }

func (n *numbers) has(id int) bool { return isID(id) && n.words[id/blockSize]&bit(id) != 0 }

func (n *numbers) put(id int) {
	if n.words == nil {
		n.words = map[int]uint64{}
	}
	n.words[id/blockSize] |= bit(id)
}

// drop takes a number out that is in it.
func (n *numbers) drop(id int) {
	n.words[id/blockSize] &^= bit(id)
	if n.words[id/blockSize] == 0 {
		delete(n.words, id/blockSize)
	}
	if len(n.words) == 0 {
		n.words = nil
	}
}

// above tells the first number above one (or above 0), going on with 1 behind MaxID, that isn't in the set; there must be one. The first block is seen twice: its numbers up to the one given are the last in turn.
func (n *numbers) above(id int) int {
	for i := range blocks + 1 {
		block := (id/blockSize + i) % blocks
		free := ^n.words[block]
		if i == 0 {
			free &^= bit(id) | (bit(id) - 1)
		}
		if block == 0 {
			free &^= bit(0)
		}
		if free != 0 {
			return block*blockSize + bits.TrailingZeros64(free)
		}
	}
	return 0
}
