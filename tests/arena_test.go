package tests

import (
	"slices"
	"testing"

	"loop.example/telemetryagent/impl"
)

func sameArena(a impl.Arena, b impl.Arena) bool {
	return a.Size == b.Size && slices.Equal(a.Blocks, b.Blocks)
}

// layouts returns all rows of blocks in the places from one on, with names
// that do not ascend.
func layouts(at int, size int, count int) [][]impl.Block {
	if at == size {
		return [][]impl.Block{nil}
	}
	list := layouts(at+1, size, count)
	for n := 1; at+n <= size; n++ {
		first := impl.Block{Name: (99 + 37*count) % 100, At: at, Size: n}
		for _, rest := range layouts(at+n, size, count+1) {
			list = append(list, slices.Concat([]impl.Block{first}, rest))
		}
	}
	return list
}

// row returns an arena with blocks of some sizes and gaps before them, which
// take turns, beginning with a gap.
func row(size int, parts ...int) impl.Arena {
	a := impl.Arena{Size: size}
	at := 0
	for i, n := range parts {
		if i%2 == 1 {
			a.Blocks = append(a.Blocks, impl.Block{Name: 99 - i, At: at, Size: n})
		}
		at += n
	}
	return a
}

// validArenas has all small arenas, and some of the greatest ones.
func validArenas() []impl.Arena {
	var list []impl.Arena
	for size := range 8 {
		for _, blocks := range layouts(0, size, 0) {
			list = append(list, impl.Arena{Size: size, Blocks: blocks})
		}
	}
	return append(list,
		row(64),
		row(64, 0, 64),
		row(64, 0, 63),
		row(64, 1, 63),
		row(64, 63, 1),
		row(64, 10, 20, 3, 5, 9, 1, 16),
		row(10, 0, 1, 0, 1, 0, 1, 0, 1, 0, 1, 0, 1, 0, 1, 0, 1, 0, 1, 0, 1),
		row(12, 0, 1, 0, 1, 0, 1, 0, 1, 0, 1, 0, 1, 1, 1, 0, 1, 0, 1),
		row(64, 3, 2, 2, 1, 4, 3, 1, 5, 0, 2, 6, 1, 1, 1, 2, 4, 5, 1),
		row(64, 3, 2, 2, 1, 4, 3, 1, 5, 0, 2, 6, 1, 1, 1, 2, 4, 5, 1, 0, 2),
		row(64, 44, 2, 0, 2, 0, 2, 0, 2, 0, 2, 0, 2, 0, 2, 0, 2, 0, 2, 0, 2),
	)
}

func invalidArenas() map[string]impl.Arena {
	eleven := impl.Arena{Size: 64}
	for i := range 11 {
		eleven.Blocks = append(eleven.Blocks, impl.Block{Name: i, At: i, Size: 1})
	}
	one := func(name int, at int, size int) impl.Arena {
		return impl.Arena{Size: 10, Blocks: []impl.Block{{Name: name, At: at, Size: size}}}
	}
	two := func(x impl.Block, y impl.Block) impl.Arena {
		return impl.Arena{Size: 10, Blocks: []impl.Block{x, y}}
	}
	return map[string]impl.Arena{
		"size below":             {Size: -1},
		"size above":             {Size: 65},
		"least size":             {Size: leastInt},
		"greatest size":          {Size: mostInt},
		"many blocks":            eleven,
		"name below":             one(-1, 0, 1),
		"name above":             one(100, 0, 1),
		"greatest name":          one(mostInt, 0, 1),
		"place below":            one(1, -1, 3),
		"least place":            one(1, leastInt, 1),
		"place behind the end":   one(1, 10, 1),
		"place far behind":       one(1, mostInt, mostInt),
		"greatest place":         one(1, mostInt, 1),
		"block of size 0":        one(1, 4, 0),
		"block of size 0, end":   one(1, 10, 0),
		"block of size below":    one(1, 4, -1),
		"block of least size":    one(1, 4, leastInt),
		"block too large":        one(1, 0, 11),
		"block over the end":     one(1, 8, 3),
		"block of greatest size": one(1, 1, mostInt),
		"block in no arena":      {Blocks: []impl.Block{{Size: 1}}},
		"same names":             two(impl.Block{Name: 5, Size: 2}, impl.Block{Name: 5, At: 4, Size: 2}),
		"over another by 1":      two(impl.Block{Name: 1, Size: 3}, impl.Block{Name: 2, At: 2, Size: 2}),
		"same place":             two(impl.Block{Name: 1, At: 3, Size: 1}, impl.Block{Name: 2, At: 3, Size: 1}),
		"wrong order":            two(impl.Block{Name: 1, At: 4, Size: 2}, impl.Block{Name: 2, At: 0, Size: 2}),
		"second over the end":    two(impl.Block{Name: 1, Size: 3}, impl.Block{Name: 2, At: 9, Size: 2}),
	}
}

// usedOf returns which places of an arena are used.
func usedOf(a impl.Arena) []bool {
	used := make([]bool, a.Size)
	for _, b := range a.Blocks {
		for i := range b.Size {
			used[b.At+i] = true
		}
	}
	return used
}

// leastPlace returns the least place from which on as many places are free,
// or -1.
func leastPlace(a impl.Arena, size int) int {
	used := usedOf(a)
	for at := 0; at+size <= len(used); at++ {
		if !slices.Contains(used[at:at+size], true) {
			return at
		}
	}
	return -1
}

// newName returns a name that no block has.
func newName(a impl.Arena) int {
	name := 0
	for slices.ContainsFunc(a.Blocks, func(b impl.Block) bool { return b.Name == name }) {
		name++
	}
	return name
}

// wantNoArena reports an error if a result is not the zero value and false.
func wantNoArena(t *testing.T, what string, a impl.Arena, ok bool) {
	t.Helper()
	if ok || !sameArena(a, impl.Arena{}) {
		t.Errorf("%s = %v, %v", what, a, ok)
	}
}

// P10, P133.
func TestValidArena(t *testing.T) {
	for _, a := range validArenas() {
		if !impl.ValidArena(a) {
			t.Errorf("%v is not valid", a)
		}
		if larger := (impl.Arena{Size: impl.MaxArena, Blocks: a.Blocks}); !impl.ValidArena(larger) {
			t.Errorf("%v is not valid", larger)
		}
		for i := range a.Blocks {
			b := impl.Arena{Size: a.Size, Blocks: slices.Delete(slices.Clone(a.Blocks), i, i+1)}
			if !impl.ValidArena(b) {
				t.Errorf("%v is not valid", b)
			}
		}
	}
	if a := (impl.Arena{Size: 2, Blocks: []impl.Block{{Name: 0, Size: 1}, {Name: 99, At: 1, Size: 1}}}); !impl.ValidArena(a) {
		t.Errorf("%v is not valid", a)
	}
}

func TestInvalidArenas(t *testing.T) {
	for name, a := range invalidArenas() {
		if impl.ValidArena(a) {
			t.Errorf("%s: %v is valid", name, a)
		}
		b, ok := impl.AllocBlock(a, 50, 1)
		wantNoArena(t, name+": AllocBlock", b, ok)
		b, ok = impl.FreeBlock(a, 1)
		wantNoArena(t, name+": FreeBlock", b, ok)
		b, ok = impl.CompactArena(a)
		wantNoArena(t, name+": CompactArena", b, ok)
		if n := impl.UsedPlaces(a); n != -1 {
			t.Errorf("%s: UsedPlaces = %d", name, n)
		}
		if n := impl.LargestGap(a); n != -1 {
			t.Errorf("%s: LargestGap = %d", name, n)
		}
	}
}

// P11, P12: and the block is at the least place where it fits.
func TestBlocksArePutInWhereThereIsRoom(t *testing.T) {
	for _, a := range validArenas() {
		name := newName(a)
		for size := 1; size <= impl.MaxArena; size++ {
			b, ok := impl.AllocBlock(a, name, size)
			if ok != (impl.LargestGap(a) >= size && len(a.Blocks) < impl.MaxBlocks) {
				t.Errorf("AllocBlock of %d in %v = %v, %v", size, a, b, ok)
			}
			if !ok {
				wantNoArena(t, "AllocBlock", b, ok)
				continue
			}
			wantPutIn(t, a, b, impl.Block{Name: name, At: leastPlace(a, size), Size: size})
		}
	}
}

// wantPutIn reports an error if an arena is not another one with a block.
func wantPutIn(t *testing.T, a impl.Arena, b impl.Arena, x impl.Block) {
	t.Helper()
	if !impl.ValidArena(b) || !slices.Contains(b.Blocks, x) {
		t.Errorf("AllocBlock of %v in %v = %v", x, a, b)
	}
	if back, ok := impl.FreeBlock(b, x.Name); !ok || !sameArena(back, a) {
		t.Errorf("FreeBlock after AllocBlock of %v in %v = %v, %v", x, a, back, ok)
	}
	if impl.UsedPlaces(b) != impl.UsedPlaces(a)+x.Size {
		t.Errorf("AllocBlock of %v in %v uses %d", x, a, impl.UsedPlaces(b))
	}
}

// P11, P12: gaps that just fit.
func TestGapsThatJustFit(t *testing.T) {
	a := row(20, 2, 3, 4, 3, 3, 1, 1, 1, 2)
	for _, c := range []struct{ size, at, place int }{{1, 0, 0}, {2, 0, 0}, {3, 5, 1}, {4, 5, 1}, {5, -1, 0}, {20, -1, 0}, {64, -1, 0}} {
		b, ok := impl.AllocBlock(a, 7, c.size)
		if c.at < 0 {
			wantNoArena(t, "AllocBlock", b, ok)
		} else if want := (impl.Block{Name: 7, At: c.at, Size: c.size}); !ok || b.Blocks[c.place] != want {
			t.Errorf("AllocBlock of %d = %v, %v", c.size, b, ok)
		}
	}
	last := row(9, 1, 2, 1, 2)
	if b, ok := impl.AllocBlock(last, 7, 3); !ok || b.Blocks[2] != (impl.Block{Name: 7, At: 6, Size: 3}) {
		t.Errorf("AllocBlock behind the last block = %v, %v", b, ok)
	}
	b, ok := impl.AllocBlock(last, 7, 4)
	wantNoArena(t, "AllocBlock of 1 more than fits", b, ok)
	if b, ok := impl.AllocBlock(impl.Arena{Size: 64}, 99, 64); !ok || impl.UsedPlaces(b) != 64 || impl.LargestGap(b) != 0 {
		t.Errorf("AllocBlock of all places = %v, %v", b, ok)
	}
	b, ok = impl.AllocBlock(impl.Arena{}, 0, 1)
	wantNoArena(t, "AllocBlock without places", b, ok)
}

// P12: names and sizes that no block can have.
func TestBlocksThatAreNotPutIn(t *testing.T) {
	a := row(64, 3, 2, 2, 1)
	for _, c := range []struct{ name, size int }{
		{98, 1}, {96, 1}, {98, 2}, {-1, 1}, {100, 1}, {leastInt, 1}, {mostInt, 1},
		{5, 0}, {5, -1}, {5, 65}, {5, 64}, {5, leastInt}, {5, mostInt}, {-1, 0}, {100, 65},
	} {
		b, ok := impl.AllocBlock(a, c.name, c.size)
		wantNoArena(t, "AllocBlock", b, ok)
	}
	for _, name := range []int{0, 99} {
		if _, ok := impl.AllocBlock(a, name, 1); !ok {
			t.Errorf("AllocBlock of the name %d fails", name)
		}
	}
	nine := row(64, 0, 1, 0, 1, 0, 1, 0, 1, 0, 1, 0, 1, 0, 1, 0, 1, 0, 1)
	ten, ok := impl.AllocBlock(nine, 1, 1)
	if !ok || len(ten.Blocks) != impl.MaxBlocks {
		t.Errorf("AllocBlock of the last block = %v, %v", ten, ok)
	}
	b, ok := impl.AllocBlock(ten, 2, 1)
	wantNoArena(t, "AllocBlock of one block more", b, ok)
}

// P14.
func TestFreedBlocksAreGone(t *testing.T) {
	for _, a := range validArenas() {
		for i, x := range a.Blocks {
			b, ok := impl.FreeBlock(a, x.Name)
			rest := slices.Delete(slices.Clone(a.Blocks), i, i+1)
			if !ok || b.Size != a.Size || !slices.Equal(b.Blocks, rest) {
				t.Errorf("FreeBlock of %d of %v = %v, %v", x.Name, a, b, ok)
			}
			if impl.UsedPlaces(b) != impl.UsedPlaces(a)-x.Size {
				t.Errorf("FreeBlock of %d of %v uses %d", x.Name, a, impl.UsedPlaces(b))
			}
			again, ok := impl.FreeBlock(b, x.Name)
			wantNoArena(t, "FreeBlock a second time", again, ok)
		}
		for _, name := range []int{newName(a), -1, 100, leastInt, mostInt} {
			b, ok := impl.FreeBlock(a, name)
			wantNoArena(t, "FreeBlock of no block", b, ok)
		}
	}
}

// P135.
func TestBlocksAreFreedInAnyOrder(t *testing.T) {
	for _, a := range validArenas() {
		for _, x := range a.Blocks {
			for _, y := range a.Blocks {
				if x.Name == y.Name {
					continue
				}
				b, _ := impl.FreeBlock(a, x.Name)
				b, one := impl.FreeBlock(b, y.Name)
				c, _ := impl.FreeBlock(a, y.Name)
				c, two := impl.FreeBlock(c, x.Name)
				if !one || !two || !sameArena(b, c) || len(b.Blocks) != len(a.Blocks)-2 {
					t.Errorf("FreeBlock of %d and %d of %v = %v and %v", x.Name, y.Name, a, b, c)
				}
			}
		}
	}
}

// P136: and places and gaps are counted as they are.
func TestPlacesAndGapsAreCounted(t *testing.T) {
	for size := range impl.MaxArena + 1 {
		a := impl.Arena{Size: size}
		if impl.UsedPlaces(a) != 0 || impl.LargestGap(a) != size {
			t.Errorf("an arena of %d uses %d, and has a gap of %d", size, impl.UsedPlaces(a), impl.LargestGap(a))
		}
	}
	for _, a := range validArenas() {
		many, longest, free := 0, 0, 0
		for _, used := range usedOf(a) {
			if used {
				many++
				free = 0
			} else {
				free++
				longest = max(longest, free)
			}
		}
		if impl.UsedPlaces(a) != many || impl.LargestGap(a) != longest {
			t.Errorf("%v uses %d, and has a gap of %d", a, impl.UsedPlaces(a), impl.LargestGap(a))
		}
		for _, x := range a.Blocks {
			a, _ = impl.FreeBlock(a, x.Name)
		}
		if impl.UsedPlaces(a) != 0 || impl.LargestGap(a) != a.Size {
			t.Errorf("%v uses %d, and has a gap of %d", a, impl.UsedPlaces(a), impl.LargestGap(a))
		}
	}
}

// P17, P18.
func TestCompactArenas(t *testing.T) {
	for _, a := range validArenas() {
		b, ok := impl.CompactArena(a)
		if !ok || !impl.ValidArena(b) || b.Size != a.Size || len(b.Blocks) != len(a.Blocks) {
			t.Fatalf("CompactArena of %v = %v, %v", a, b, ok)
		}
		end := 0
		for i, x := range a.Blocks {
			if b.Blocks[i] != (impl.Block{Name: x.Name, At: end, Size: x.Size}) {
				t.Errorf("CompactArena of %v = %v", a, b)
			}
			end += x.Size
		}
		if impl.LargestGap(b) != a.Size-impl.UsedPlaces(a) {
			t.Errorf("CompactArena of %v has a gap of %d", a, impl.LargestGap(b))
		}
		if c, ok := impl.CompactArena(b); !ok || !sameArena(b, c) {
			t.Errorf("CompactArena of %v = %v, %v", b, c, ok)
		}
	}
}

// P134.
func TestCompactArenasHaveRoom(t *testing.T) {
	for _, a := range validArenas() {
		b, _ := impl.CompactArena(a)
		left := a.Size - impl.UsedPlaces(a)
		for size := 1; size <= left+1; size++ {
			c, ok := impl.AllocBlock(b, newName(a), size)
			if ok != (size <= left && len(a.Blocks) < impl.MaxBlocks) {
				t.Errorf("AllocBlock of %d after CompactArena of %v = %v, %v", size, a, c, ok)
			}
			if ok && c.Blocks[len(c.Blocks)-1] != (impl.Block{Name: newName(a), At: impl.UsedPlaces(a), Size: size}) {
				t.Errorf("AllocBlock of %d after CompactArena of %v = %v", size, a, c)
			}
		}
	}
}

func TestArenasShareNoMemory(t *testing.T) {
	a := row(20, 2, 3, 4, 3)
	a.Blocks = spare(a.Blocks)
	before := slices.Clone(a.Blocks)
	for name, change := range map[string]func() (impl.Arena, bool){
		"AllocBlock in front": func() (impl.Arena, bool) { return impl.AllocBlock(a, 1, 2) },
		"AllocBlock at last":  func() (impl.Arena, bool) { return impl.AllocBlock(a, 1, 8) },
		"FreeBlock, first":    func() (impl.Arena, bool) { return impl.FreeBlock(a, 98) },
		"FreeBlock, last":     func() (impl.Arena, bool) { return impl.FreeBlock(a, 96) },
		"CompactArena":        func() (impl.Arena, bool) { return impl.CompactArena(a) },
	} {
		b, ok := change()
		if !ok {
			t.Fatalf("%s fails", name)
		}
		overwrite(b.Blocks, impl.Block{Name: 77})
		if !slices.Equal(a.Blocks, before) || !zeros(behind(a.Blocks)) {
			t.Fatalf("%s shares the blocks", name)
		}
	}
}
