package tests

import (
	"slices"
	"testing"

	"loop.example/telemetryagent/impl"
)

func sameBudget(a impl.Budget, b impl.Budget) bool {
	return a.Total == b.Total && slices.Equal(a.Kept, b.Kept) && slices.Equal(a.Used, b.Used)
}

// triples returns all three numbers in 0..most.
func triples(most int) [][]int {
	var list [][]int
	for a := range most + 1 {
		for b := range most + 1 {
			for c := range most + 1 {
				list = append(list, []int{a, b, c})
			}
		}
	}
	return list
}

// fitsByHand reports whether what is kept, and what is used beyond it, are at
// most as much as there is, for numbers that are in their limits.
func fitsByHand(total int, kept []int, used []int) bool {
	all := 0
	for class := range 3 {
		if used[class] > kept[class] {
			all += used[class]
		} else {
			all += kept[class]
		}
	}
	return all <= total
}

// validBudgets has all small budgets, and some of the greatest ones.
func validBudgets() []impl.Budget {
	var list []impl.Budget
	for total := range 5 {
		for _, kept := range triples(3) {
			for _, used := range triples(3) {
				if fitsByHand(total, kept, used) {
					list = append(list, impl.Budget{Total: total, Kept: kept, Used: used})
				}
			}
		}
	}
	d := dice{state: 3}
	for range 3000 {
		total := d.roll(impl.MaxTotal + 1)
		kept := []int{d.roll(total + 1), d.roll(total/2 + 1), d.roll(total/3 + 1)}
		used := []int{d.roll(total + 1), d.roll(total/2 + 1), d.roll(total/3 + 1)}
		if fitsByHand(total, kept, used) {
			list = append(list, impl.Budget{Total: total, Kept: kept, Used: used})
		}
	}
	return append(list,
		impl.Budget{Total: 200, Kept: []int{0, 0, 0}, Used: []int{0, 0, 0}},
		impl.Budget{Total: 200, Kept: []int{200, 0, 0}, Used: []int{0, 0, 0}},
		impl.Budget{Total: 200, Kept: []int{0, 200, 0}, Used: []int{0, 200, 0}},
		impl.Budget{Total: 200, Kept: []int{0, 0, 0}, Used: []int{0, 0, 200}},
		impl.Budget{Total: 200, Kept: []int{70, 60, 50}, Used: []int{90, 60, 0}},
		impl.Budget{Total: 200, Kept: []int{70, 60, 50}, Used: []int{80, 70, 50}},
		impl.Budget{Total: 200, Kept: []int{70, 60, 50}, Used: []int{0, 0, 69}},
		impl.Budget{Total: 199, Kept: []int{0, 0, 199}, Used: []int{0, 0, 198}},
	)
}

func invalidBudgets() map[string]impl.Budget {
	none := []int{0, 0, 0}
	kept := func(kept ...int) impl.Budget { return impl.Budget{Total: 200, Kept: kept, Used: none} }
	used := func(used ...int) impl.Budget { return impl.Budget{Total: 200, Kept: none, Used: used} }
	return map[string]impl.Budget{
		"nothing at all":         {},
		"total below":            {Total: -1, Kept: none, Used: none},
		"total above":            {Total: 201, Kept: none, Used: none},
		"least total":            {Total: leastInt, Kept: none, Used: none},
		"greatest total":         {Total: mostInt, Kept: none, Used: none},
		"nothing kept":           kept(),
		"few kept":               kept(0, 0),
		"many kept":              kept(0, 0, 0, 0),
		"kept below, first":      kept(-1, 0, 0),
		"kept below, last":       kept(0, 0, -1),
		"kept below, made up":    kept(100, -1, 100),
		"kept above":             kept(0, 201, 0),
		"least kept":             kept(leastInt, 0, 0),
		"greatest kept":          kept(mostInt, 0, 0),
		"kept and around":        kept(mostInt, mostInt, 2),
		"kept and far around":    kept(1<<62, 1<<62, 1<<62),
		"no numbers used":        used(),
		"few used":               used(0, 0),
		"many used":              used(0, 0, 0, 0),
		"used below, first":      used(-1, 0, 0),
		"used below, last":       used(0, 0, -1),
		"used below, made up":    used(100, -1, 100),
		"used above":             used(0, 201, 0),
		"least used":             used(leastInt, 0, 0),
		"greatest used":          used(mostInt, 0, 0),
		"used and around":        used(mostInt, mostInt, 2),
		"used and far around":    used(1<<62, 1<<62, 1<<62),
		"few of both":            {Total: 200, Kept: []int{0, 0}, Used: []int{0, 0}},
		"many of both":           {Total: 200, Kept: times(4, 0), Used: times(4, 0)},
		"kept 1 more":            {Total: 9, Kept: []int{4, 3, 3}, Used: none},
		"kept 1 more, and used":  {Total: 9, Kept: []int{4, 3, 3}, Used: []int{4, 3, 3}},
		"kept without a total":   {Total: 0, Kept: []int{0, 0, 1}, Used: none},
		"used 1 more":            {Total: 9, Kept: none, Used: []int{4, 3, 3}},
		"used without a total":   {Total: 0, Kept: none, Used: []int{0, 1, 0}},
		"used 1 more beyond":     {Total: 9, Kept: []int{2, 2, 2}, Used: []int{4, 3, 3}},
		"used of what is kept":   {Total: 9, Kept: []int{9, 0, 0}, Used: []int{0, 1, 0}},
		"used of others' rest":   {Total: 9, Kept: []int{3, 3, 3}, Used: []int{0, 4, 0}},
		"used of all but others": {Total: 200, Kept: []int{0, 100, 0}, Used: []int{101, 0, 0}},
	}
}

// otherClasses has numbers that no class has.
func otherClasses() []int {
	return []int{-1, impl.Classes, impl.Classes + 1, leastInt, mostInt}
}

// usedMore returns a budget of which a class uses more.
func usedMore(b impl.Budget, class int, size int) impl.Budget {
	return impl.Budget{Total: b.Total, Kept: b.Kept, Used: with(b.Used, class, b.Used[class]+size)}
}

// rooms returns RoomFor of all classes.
func rooms(b impl.Budget) []int {
	return []int{impl.RoomFor(b, 0), impl.RoomFor(b, 1), impl.RoomFor(b, 2)}
}

// wantNoBudget reports an error if a result is not the zero value and false.
func wantNoBudget(t *testing.T, what string, b impl.Budget, ok bool) {
	t.Helper()
	if ok || !sameBudget(b, impl.Budget{}) {
		t.Errorf("%s = %v, %v", what, b, ok)
	}
}

// wantBudget reports an error if a result is not a budget and true.
func wantBudget(t *testing.T, what string, b impl.Budget, ok bool, want impl.Budget) {
	t.Helper()
	if !ok || !sameBudget(b, want) || !impl.ValidBudget(b) {
		t.Errorf("%s = %v, %v, not %v", what, b, ok, want)
	}
}

// wantRefused reports an error if a function takes or gives more than is the
// most for a class, less than nothing, or anything for no class.
func wantRefused(t *testing.T, what string, b impl.Budget, f func(impl.Budget, int, int) (impl.Budget, bool), most []int) {
	t.Helper()
	for class, n := range most {
		for _, size := range []int{n + 1, -1, impl.MaxTotal + 1, leastInt, mostInt} {
			c, ok := f(b, class, size)
			wantNoBudget(t, what+" of too much or too little", c, ok)
		}
	}
	for _, class := range otherClasses() {
		for _, size := range []int{-1, 0, 1} {
			c, ok := f(b, class, size)
			wantNoBudget(t, what+" of no class", c, ok)
		}
	}
}

// P19, P137: and budgets are valid if what is kept and used fits.
func TestValidBudget(t *testing.T) {
	for total := range 5 {
		for _, kept := range triples(5) {
			for _, used := range triples(5) {
				b := impl.Budget{Total: total, Kept: kept, Used: used}
				if impl.ValidBudget(b) != fitsByHand(total, kept, used) {
					t.Errorf("ValidBudget of %v = %v", b, impl.ValidBudget(b))
				}
			}
		}
	}
	for _, b := range validBudgets() {
		unused := impl.Budget{Total: b.Total, Kept: b.Kept, Used: []int{0, 0, 0}}
		larger := impl.Budget{Total: impl.MaxTotal, Kept: b.Kept, Used: b.Used}
		if !impl.ValidBudget(b) || !impl.ValidBudget(unused) || !impl.ValidBudget(larger) {
			t.Errorf("%v is not valid, unused or with a larger total", b)
		}
	}
}

func TestInvalidBudgets(t *testing.T) {
	for name, b := range invalidBudgets() {
		if impl.ValidBudget(b) {
			t.Errorf("%s: %v is valid", name, b)
		}
		if n := impl.UsedAll(b); n != -1 {
			t.Errorf("%s: UsedAll = %d", name, n)
		}
		for _, class := range append(otherClasses(), 0, 1, 2) {
			if n := impl.RoomFor(b, class); n != -1 {
				t.Errorf("%s: RoomFor %d = %d", name, class, n)
			}
			for _, size := range []int{0, 1, -1} {
				c, ok := impl.TakeCredit(b, class, size)
				wantNoBudget(t, name+": TakeCredit", c, ok)
				c, ok = impl.GiveCredit(b, class, size)
				wantNoBudget(t, name+": GiveCredit", c, ok)
			}
		}
	}
}

// P20, P21: what is kept for others is no room, used or not.
func TestRoomIsAsMuchAsFits(t *testing.T) {
	for _, b := range validBudgets() {
		for class := range impl.Classes {
			most := 0
			for fitsByHand(b.Total, b.Kept, usedMore(b, class, most+1).Used) {
				most++
			}
			if n := impl.RoomFor(b, class); n != most || n < b.Kept[class]-b.Used[class] {
				t.Errorf("RoomFor %d in %v = %d, not %d", class, b, n, most)
			}
		}
		for _, class := range otherClasses() {
			if n := impl.RoomFor(b, class); n != -1 {
				t.Errorf("RoomFor %d in %v = %d", class, b, n)
			}
		}
	}
}

// P21: what is kept for a class is there, however much the others take.
func TestWhatIsKeptIsKept(t *testing.T) {
	for _, b := range validBudgets() {
		for class := range impl.Classes {
			full := b
			for other := range impl.Classes {
				if other != class {
					full, _ = impl.TakeCredit(full, other, impl.RoomFor(full, other))
				}
			}
			if n := impl.RoomFor(full, class); n != max(b.Kept[class]-b.Used[class], 0) {
				t.Errorf("RoomFor %d in %v = %d", class, full, n)
			}
		}
	}
}

// P138.
func TestLargerBudgetsHaveMoreRoom(t *testing.T) {
	for _, b := range validBudgets() {
		if b.Total == impl.MaxTotal {
			continue
		}
		larger := impl.Budget{Total: b.Total + 1, Kept: b.Kept, Used: b.Used}
		for class, n := range rooms(b) {
			if more := impl.RoomFor(larger, class); more != n+1 {
				t.Errorf("RoomFor %d in %v = %d, and in %v = %d", class, b, n, larger, more)
			}
		}
	}
}

// P20, P22.
func TestRoomCanBeTaken(t *testing.T) {
	for _, b := range validBudgets() {
		for class, room := range rooms(b) {
			for _, size := range []int{0, room / 2, room} {
				c, ok := impl.TakeCredit(b, class, size)
				wantBudget(t, "TakeCredit", c, ok, usedMore(b, class, size))
				back, ok := impl.GiveCredit(c, class, size)
				wantBudget(t, "GiveCredit after TakeCredit", back, ok, b)
			}
		}
		wantRefused(t, "TakeCredit", b, impl.TakeCredit, rooms(b))
	}
}

// P23.
func TestCreditIsTakenInParts(t *testing.T) {
	for _, b := range validBudgets() {
		for class, room := range rooms(b) {
			for part := 0; part <= room; part += 1 + room/7 {
				c, one := impl.TakeCredit(b, class, part)
				c, two := impl.TakeCredit(c, class, room-part)
				wantBudget(t, "TakeCredit in parts", c, one && two, usedMore(b, class, room))
				c, _ = impl.TakeCredit(b, class, part)
				c, ok := impl.TakeCredit(c, class, room-part+1)
				wantNoBudget(t, "TakeCredit of too much in parts", c, ok)
			}
		}
	}
}

// P139.
func TestClassesTakeInAnyOrder(t *testing.T) {
	for _, b := range validBudgets() {
		for x := range impl.Classes {
			for y := range impl.Classes {
				for _, size := range []int{0, 1, 2, impl.RoomFor(b, x), impl.RoomFor(b, x) / 2} {
					wantAnyOrder(t, b, x, size, y, impl.RoomFor(b, y)/2)
				}
			}
		}
	}
}

// wantAnyOrder reports an error if two classes take different credit in both
// orders.
func wantAnyOrder(t *testing.T, b impl.Budget, x int, some int, y int, more int) {
	t.Helper()
	c, ok := impl.TakeCredit(b, x, some)
	if ok {
		c, ok = impl.TakeCredit(c, y, more)
	}
	d, also := impl.TakeCredit(b, y, more)
	if also {
		d, also = impl.TakeCredit(d, x, some)
	}
	want := usedMore(usedMore(b, x, some), y, more)
	if fitsByHand(want.Total, want.Kept, want.Used) {
		wantBudget(t, "TakeCredit in one order", c, ok, want)
		wantBudget(t, "TakeCredit in the other order", d, also, want)
	} else {
		wantNoBudget(t, "TakeCredit in one order", c, ok)
		wantNoBudget(t, "TakeCredit in the other order", d, also)
	}
}

// P24.
func TestGivenCreditIsRoom(t *testing.T) {
	for _, b := range validBudgets() {
		for class, used := range b.Used {
			for _, size := range []int{0, min(1, used), used / 2, used} {
				c, ok := impl.GiveCredit(b, class, size)
				wantBudget(t, "GiveCredit", c, ok, usedMore(b, class, -size))
				for other, room := range rooms(c) {
					more := room - impl.RoomFor(b, other)
					if other == class && more != size || more < 0 {
						t.Errorf("RoomFor %d after GiveCredit of %d by %d to %v is greater by %d", other, size, class, b, more)
					}
				}
			}
		}
	}
}

func TestCreditThatIsNotGivenBack(t *testing.T) {
	for _, b := range validBudgets() {
		wantRefused(t, "GiveCredit", b, impl.GiveCredit, b.Used)
	}
}

// P140.
func TestAllCreditIsGivenBack(t *testing.T) {
	for _, b := range validBudgets() {
		c, ok := b, true
		for class, used := range b.Used {
			c, ok = impl.GiveCredit(c, class, used)
			if !ok {
				t.Fatalf("GiveCredit of %d by %d of %v fails", used, class, b)
			}
		}
		wantBudget(t, "GiveCredit of all", c, ok, impl.Budget{Total: b.Total, Kept: b.Kept, Used: []int{0, 0, 0}})
		if n := impl.UsedAll(c); n != 0 {
			t.Errorf("UsedAll of %v = %d", c, n)
		}
	}
}

// P25.
func TestNobodyUsesMoreThanThereIs(t *testing.T) {
	for _, b := range validBudgets() {
		n := impl.UsedAll(b)
		if n != b.Used[0]+b.Used[1]+b.Used[2] || n > b.Total {
			t.Errorf("UsedAll of %v = %d", b, n)
		}
		if (n == b.Total) != slices.Equal(rooms(b), []int{0, 0, 0}) {
			t.Errorf("UsedAll of %v = %d, and there is room of %v", b, n, rooms(b))
		}
		for class := range impl.Classes {
			b, _ = impl.TakeCredit(b, class, impl.RoomFor(b, class))
		}
		if n := impl.UsedAll(b); n != b.Total {
			t.Errorf("UsedAll of %v, which is full, = %d", b, n)
		}
	}
}

func TestBudgetsShareNoMemory(t *testing.T) {
	same := spare([]int{5, 3, 2})
	for name, b := range map[string]impl.Budget{
		"apart": {Total: 30, Kept: spare([]int{5, 3, 2}), Used: spare([]int{5, 3, 2})},
		"one":   {Total: 30, Kept: same, Used: same},
	} {
		for _, change := range []func() (impl.Budget, bool){
			func() (impl.Budget, bool) { return impl.TakeCredit(b, 1, 4) },
			func() (impl.Budget, bool) { return impl.TakeCredit(b, 1, 0) },
			func() (impl.Budget, bool) { return impl.GiveCredit(b, 1, 3) },
			func() (impl.Budget, bool) { return impl.GiveCredit(b, 1, 0) },
		} {
			c, ok := change()
			if !ok {
				t.Fatalf("%s: TakeCredit or GiveCredit of %v fails", name, b)
			}
			overwrite(c.Used, 77)
			if !slices.Equal(c.Kept, []int{5, 3, 2}) {
				t.Errorf("%s: Kept and Used share memory: %v", name, c)
			}
			overwrite(c.Kept, 77)
			for _, list := range [][]int{b.Kept, b.Used} {
				if !slices.Equal(list, []int{5, 3, 2}) || !zeros(behind(list)) {
					t.Fatalf("%s: the argument is changed: %v", name, b)
				}
			}
		}
	}
}
