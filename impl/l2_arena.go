package impl

import "slices"

// MaxArena is the largest size of an arena.
const MaxArena = 64

// MaxBlocks is the largest number of blocks of an arena.
const MaxBlocks = 10

// MaxName is the largest name of a block or an entry.
const MaxName = 99

// Block is a part of an arena that is used.
type Block struct {
	Name int
	At   int
	Size int
}

// Arena is a row of places.
type Arena struct {
	Size   int
	Blocks []Block
}

// gap is a row of free places, which may be empty.
type gap struct {
	at   int
	size int
}

// ValidArena reports whether an arena is valid.
func ValidArena(a Arena) bool {
	if !within(a.Size, 0, MaxArena) || len(a.Blocks) > MaxBlocks {
		return false
	}
	var named [MaxName + 1]bool
	end := 0
	for _, b := range a.Blocks {
		if !within(b.Name, 0, MaxName) || named[b.Name] {
			return false
		}
		// The size is held against what is left, because At and Size of any
		// block may be too large to be added.
		if !within(b.At, end, a.Size) || !within(b.Size, 1, a.Size-b.At) {
			return false
		}
		named[b.Name] = true
		end = b.At + b.Size
	}
	return true
}

// AllocBlock returns an arena with a block at the least place where it fits.
func AllocBlock(a Arena, name int, size int) (Arena, bool) {
	if !ValidArena(a) || !within(name, 0, MaxName) || !within(size, 1, MaxArena) {
		return Arena{}, false
	}
	if placeOfName(a, name) >= 0 || len(a.Blocks) == MaxBlocks {
		return Arena{}, false
	}
	for i, g := range freeList(a) {
		if g.size >= size {
			added := []Block{{Name: name, At: g.at, Size: size}}
			return Arena{Size: a.Size, Blocks: slices.Concat(a.Blocks[:i], added, a.Blocks[i:])}, true
		}
	}
	return Arena{}, false
}

// FreeBlock returns an arena without the block with a name.
func FreeBlock(a Arena, name int) (Arena, bool) {
	if !ValidArena(a) {
		return Arena{}, false
	}
	i := placeOfName(a, name)
	if i < 0 {
		return Arena{}, false
	}
	return Arena{Size: a.Size, Blocks: slices.Concat(a.Blocks[:i], a.Blocks[i+1:])}, true
}

// UsedPlaces returns how many places are used.
func UsedPlaces(a Arena) int {
	if !ValidArena(a) {
		return -1
	}
	used := 0
	for _, b := range a.Blocks {
		used += b.Size
	}
	return used
}

// LargestGap returns how many places are free in a row.
func LargestGap(a Arena) int {
	if !ValidArena(a) {
		return -1
	}
	largest := 0
	for _, g := range freeList(a) {
		largest = max(largest, g.size)
	}
	return largest
}

// CompactArena returns an arena with all blocks moved together.
func CompactArena(a Arena) (Arena, bool) {
	if !ValidArena(a) {
		return Arena{}, false
	}
	var blocks []Block
	end := 0
	for _, b := range a.Blocks {
		blocks = append(blocks, Block{Name: b.Name, At: end, Size: b.Size})
		end += b.Size
	}
	return Arena{Size: a.Size, Blocks: blocks}, true
}

// freeList returns the gap before each block of a valid arena, and the one
// behind the last block. The empty ones are in it, too, so that a block that
// is put into a gap has the number of this gap among the blocks.
func freeList(a Arena) []gap {
	var gaps []gap
	end := 0
	for _, b := range a.Blocks {
		gaps = append(gaps, gap{at: end, size: b.At - end})
		end = b.At + b.Size
	}
	return append(gaps, gap{at: end, size: a.Size - end})
}

// placeOfName returns where among the blocks the one with a name is, or -1.
func placeOfName(a Arena, name int) int {
	for i, b := range a.Blocks {
		if b.Name == name {
			return i
		}
	}
	return -1
}
