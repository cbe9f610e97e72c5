package tests

import (
	"slices"
	"testing"

	"loop.example/telemetryagent/impl"
)

// validLists has entries of all lengths: all orders of up to five classes,
// and the entries of all valid queues.
func validLists() [][]impl.Entry {
	lists := [][]impl.Entry{nil}
	for from := 0; len(lists[from]) < 5; from++ {
		for class := range impl.Classes {
			x := impl.Entry{Name: 99 - (from*7+class)%20 - 20*len(lists[from]), Class: class, Size: 1 + (from*3+class*8)%20}
			lists = append(lists, slices.Concat(lists[from], []impl.Entry{x}))
		}
	}
	for _, q := range validQueues() {
		lists = append(lists, q.List)
	}
	return append(lists, fullList(2), fullList(1), fullList(0))
}

// fullList returns as many entries of a class as there may be, of the
// greatest size.
func fullList(class int) []impl.Entry {
	var list []impl.Entry
	for i := range impl.MaxQueue {
		list = append(list, impl.Entry{Name: 9 + 10*i, Class: class, Size: impl.MaxSize})
	}
	return list
}

// shedByHand returns the entries of greater classes than one, the greatest
// class first, and the oldest one of each class first.
func shedByHand(list []impl.Entry, class int) []impl.Entry {
	var order []impl.Entry
	for other := impl.Classes - 1; other > class; other-- {
		order = append(order, ofClass(list, other)...)
	}
	return order
}

// namesOf returns the names of entries.
func namesOf(list []impl.Entry) []int {
	var names []int
	for _, x := range list {
		names = append(names, x.Name)
	}
	return names
}

// withoutAll returns the entries that others are not, in order.
func withoutAll(list []impl.Entry, others []impl.Entry) []impl.Entry {
	return slices.DeleteFunc(slices.Clone(list), func(x impl.Entry) bool { return slices.Contains(others, x) })
}

// wantNothingShed reports an error if ShedFor does not fail.
func wantNothingShed(t *testing.T, what string, list []impl.Entry, class int, need int) {
	t.Helper()
	names, left, ok := impl.ShedFor(list, class, need)
	if names != nil || left != nil || ok {
		t.Errorf("%s: ShedFor of %v for %d by %d = %v, %v, %v", what, list, class, need, names, left, ok)
	}
}

// wantNoShedding reports an error if a function takes entries or a class that
// are not valid.
func wantNoShedding(t *testing.T, what string, list []impl.Entry, class int) {
	t.Helper()
	if n := impl.VictimFor(list, class); n != -1 {
		t.Errorf("%s: VictimFor of %v for %d = %d", what, list, class, n)
	}
	if n := impl.CanShed(list, class); n != -1 {
		t.Errorf("%s: CanShed of %v for %d = %d", what, list, class, n)
	}
	if names := impl.ShedOrder(list, class); names != nil {
		t.Errorf("%s: ShedOrder of %v for %d = %v", what, list, class, names)
	}
	for _, need := range []int{-1, 0, 1} {
		wantNothingShed(t, what, list, class, need)
	}
}

// P26, P35, P146.
func TestValidEntries(t *testing.T) {
	for _, list := range validLists() {
		back := slices.Clone(list)
		slices.Reverse(back)
		if !impl.ValidEntries(list) || !impl.ValidEntries(back) {
			t.Errorf("%v are not valid, or not in reverse order", list)
		}
		for i := range list {
			if !impl.ValidEntries(without(list, i)) {
				t.Errorf("%v are not valid", without(list, i))
			}
		}
		if len(list) == 0 || len(list) == impl.MaxQueue {
			continue
		}
		x := list[0]
		x.Class, x.Size = (x.Class+1)%impl.Classes, 1+x.Size%impl.MaxSize
		for _, again := range []impl.Entry{list[0], x} {
			for _, twice := range [][]impl.Entry{slices.Concat(list, []impl.Entry{again}), slices.Concat([]impl.Entry{again}, list)} {
				if impl.ValidEntries(twice) {
					t.Errorf("%v are valid", twice)
				}
			}
		}
	}
}

func TestInvalidEntriesAreNotShed(t *testing.T) {
	for name, list := range invalidLists() {
		for _, list := range [][]impl.Entry{list, slices.Concat([]impl.Entry{{Name: 50, Class: 2, Size: 7}}, list)} {
			if impl.ValidEntries(list) {
				t.Errorf("%s: %v are valid", name, list)
			}
			for _, class := range append(otherClasses(), 0, 1, 2) {
				wantNoShedding(t, name, list, class)
			}
		}
	}
}

func TestNothingIsShedForOtherClasses(t *testing.T) {
	for _, list := range validLists() {
		for _, class := range otherClasses() {
			wantNoShedding(t, "no class", list, class)
		}
	}
}

// P36, P37, P147: also without entries, and for entries of equal classes.
func TestVictims(t *testing.T) {
	for _, list := range validLists() {
		for class := range impl.Classes {
			place := impl.VictimFor(list, class)
			if (place == -1) != (impl.CanShed(list, class) == 0) {
				t.Errorf("VictimFor of %v for %d = %d, and CanShed = %d", list, class, place, impl.CanShed(list, class))
			}
			if next := impl.VictimFor(list, class+1); next != place && next != -1 {
				t.Errorf("VictimFor of %v for %d = %d, and for %d = %d", list, class, place, class+1, next)
			}
			want := -1
			if order := shedByHand(list, class); len(order) > 0 {
				want = slices.Index(list, order[0])
			}
			if place != want {
				t.Errorf("VictimFor of %v for %d = %d, not %d", list, class, place, want)
			}
			for i, x := range list {
				if place >= 0 && (list[place].Class <= class || x.Class > list[place].Class || x.Class == list[place].Class && i < place) {
					t.Errorf("VictimFor of %v for %d = %d, and not %d", list, class, place, i)
				}
			}
		}
	}
}

// P36, P42: the order in which entries are shed, written by hand.
func TestOrderOfShedding(t *testing.T) {
	list := line(1, 9, 0, 2, 2, 3, 1, 20, 2, 1, 0, 20, 2, 20, 1, 1, 0, 1, 2, 1)
	for class, want := range [][]int{{2, 4, 6, 9, 0, 3, 7}, {2, 4, 6, 9}, {}} {
		var order []int
		for _, name := range impl.ShedOrder(list, class) {
			order = append(order, slices.Index(namesOf(list), name))
		}
		if !slices.Equal(order, want) {
			t.Errorf("ShedOrder for %d has the places %v, not %v", class, order, want)
		}
	}
}

// P42, P150.
func TestAllThatCanBeShedIsInTheOrder(t *testing.T) {
	for _, list := range validLists() {
		for class := range impl.Classes {
			order := impl.ShedOrder(list, class)
			if !slices.Equal(order, namesOf(shedByHand(list, class))) {
				t.Errorf("ShedOrder of %v for %d = %v", list, class, order)
			}
			place := impl.VictimFor(list, class)
			if place < 0 {
				continue
			}
			rest := impl.ShedOrder(without(list, place), class)
			if !slices.Equal(order, join([]int{list[place].Name}, rest)) {
				t.Errorf("ShedOrder of %v for %d = %v, and without %d = %v", list, class, order, place, rest)
			}
		}
	}
}

// P41, P149.
func TestLessIsShedForGreaterClasses(t *testing.T) {
	for _, list := range validLists() {
		most := sizesOf(list)
		for class := range impl.Classes {
			n := impl.CanShed(list, class)
			if n != sizesOf(shedByHand(list, class)) || n > most {
				t.Errorf("CanShed of %v for %d = %d", list, class, n)
			}
			most = n
		}
		if impl.CanShed(list, 0)+sizesOf(ofClass(list, 0)) != sizesOf(list) {
			t.Errorf("CanShed of %v for 0 = %d", list, impl.CanShed(list, 0))
		}
	}
}

// P38, P39, P40: for all numbers that are enough, and 1 more.
func TestShedEntriesAreEnough(t *testing.T) {
	for _, list := range validLists() {
		for class := range impl.Classes {
			order := shedByHand(list, class)
			many := 0
			for need := range impl.CanShed(list, class) + 1 {
				if sizesOf(order[:many]) < need {
					many++
				}
				names, left, ok := impl.ShedFor(list, class, need)
				if !ok || !slices.Equal(names, namesOf(order[:many])) || !slices.Equal(left, withoutAll(list, order[:many])) {
					t.Errorf("ShedFor of %v for %d by %d = %v, %v, %v", list, class, need, names, left, ok)
				}
			}
			for _, need := range []int{impl.CanShed(list, class) + 1, impl.MaxTotal, impl.MaxTotal + 1, -1, leastInt, mostInt} {
				if need != impl.CanShed(list, class) {
					wantNothingShed(t, "too much or too little", list, class, need)
				}
			}
		}
	}
}

// P38, P40: entries that are shed and left, written by hand.
func TestShedAndLeftEntries(t *testing.T) {
	list := []impl.Entry{{Name: 8, Class: 1, Size: 4}, {Name: 3, Class: 2, Size: 6}, {Name: 0, Class: 0, Size: 9}, {Name: 99, Class: 2, Size: 1}, {Name: 5, Class: 1, Size: 20}}
	for name, c := range map[string]struct {
		list        []impl.Entry
		class, need int
		names, left []int
	}{
		"nothing":                {list, 0, 0, nil, []int{8, 3, 0, 99, 5}},
		"nothing, last class":    {list, 2, 0, nil, []int{8, 3, 0, 99, 5}},
		"nothing of nothing":     {nil, 0, 0, nil, nil},
		"a part of one":          {list, 0, 1, []int{3}, []int{8, 0, 99, 5}},
		"just one":               {list, 0, 6, []int{3}, []int{8, 0, 99, 5}},
		"1 more than one":        {list, 0, 7, []int{3, 99}, []int{8, 0, 5}},
		"all of the last class":  {list, 1, 7, []int{3, 99}, []int{8, 0, 5}},
		"the next class":         {list, 0, 8, []int{3, 99, 8}, []int{0, 5}},
		"all of the next class":  {list, 0, 11, []int{3, 99, 8}, []int{0, 5}},
		"the youngest one":       {list, 0, 12, []int{3, 99, 8, 5}, []int{0}},
		"everything":             {list, 0, 31, []int{3, 99, 8, 5}, []int{0}},
		"everything there is":    {fullList(1), 0, 200, namesOf(fullList(1)), nil},
		"nearly everything":      {fullList(2), 1, 180, namesOf(fullList(2))[:9], namesOf(fullList(2))[9:]},
		"1 more than nearly all": {fullList(2), 1, 181, namesOf(fullList(2)), nil},
	} {
		names, left, ok := impl.ShedFor(c.list, c.class, c.need)
		if !ok || !slices.Equal(names, c.names) || !slices.Equal(namesOf(left), c.left) {
			t.Errorf("%s: ShedFor of %v for %d by %d = %v, %v, %v", name, c.list, c.class, c.need, names, left, ok)
		}
	}
	for _, x := range [][2]int{{0, 32}, {1, 8}, {2, 1}, {0, 200}} {
		wantNothingShed(t, "too much", list, x[0], x[1])
	}
	wantNothingShed(t, "too much of nothing", nil, 0, 1)
}

// P148.
func TestMoreIsShedForMore(t *testing.T) {
	for _, list := range validLists() {
		for class := range impl.Classes {
			for need := 1; need <= impl.CanShed(list, class); need++ {
				more, _, _ := impl.ShedFor(list, class, need)
				less, _, ok := impl.ShedFor(list, class, need-1)
				if !ok || len(more) == 0 || !slices.Equal(less, more) && !slices.Equal(less, more[:len(more)-1]) {
					t.Errorf("ShedFor of %v for %d by %d = %v, and by 1 less %v", list, class, need, more, less)
				}
			}
		}
	}
}

func TestSheddingSharesNoMemory(t *testing.T) {
	list := spare(line(1, 9, 2, 2, 0, 3, 2, 4))
	want := slices.Clone(list)
	for _, need := range []int{0, 1, 3, 15} {
		names, left, ok := impl.ShedFor(list, 0, need)
		if !ok {
			t.Fatalf("ShedFor of %v by %d fails", list, need)
		}
		overwrite(names, 77)
		overwrite(left, impl.Entry{Name: 77})
		overwrite(impl.ShedOrder(list, 0), 77)
		impl.VictimFor(list, 0)
		impl.CanShed(list, 0)
		if !slices.Equal(list, want) || !zeros(behind(list)) {
			t.Fatalf("ShedFor by %d: the entries are changed: %v", need, list)
		}
		if again := impl.ShedOrder(list, 0); !slices.Equal(again, []int{want[1].Name, want[3].Name, want[0].Name}) {
			t.Errorf("ShedOrder is kept: %v", again)
		}
	}
}
