package tests

import (
	"slices"
	"testing"

	"loop.example/telemetryagent/impl"
)

// stand is a budget and entries that fit together.
type stand struct {
	budget impl.Budget
	list   []impl.Entry
}

// bytesOf returns the sum of the sizes of the entries of each class.
func bytesOf(list []impl.Entry) []int {
	return []int{sizesOf(ofClass(list, 0)), sizesOf(ofClass(list, 1)), sizesOf(ofClass(list, 2))}
}

// stands has some entries with budgets that are full, nearly full or nearly
// unused, and keep nothing, little, or more than is used for a class.
func stands() []stand {
	d := dice{state: 6}
	var list []stand
	for i, entries := range validLists() {
		if i%3 > 0 && len(entries) < 9 {
			continue
		}
		b := impl.Budget{Used: bytesOf(entries)}
		for _, used := range b.Used {
			b.Kept = append(b.Kept, []int{0, used, d.roll(30), used + d.roll(9), used / 2}[d.roll(5)])
		}
		if !fitsByHand(impl.MaxTotal, b.Kept, b.Used) {
			b.Kept = times(3, 0)
		}
		for !fitsByHand(b.Total, b.Kept, b.Used) {
			b.Total++
		}
		b.Total = min(b.Total+[]int{0, d.roll(4), d.roll(25), 200}[d.roll(4)], impl.MaxTotal)
		list = append(list, stand{b, entries})
	}
	return list
}

// usedAfter returns Used of a budget when entries are shed for an item.
func usedAfter(b impl.Budget, shed []impl.Entry, class int, size int) []int {
	used := with(b.Used, class, b.Used[class]+size)
	for _, x := range shed {
		used[x.Class] -= x.Size
	}
	return used
}

// shedForByHand returns the fewest entries, of those that are shed first,
// without which there is room for an item, and whether there are any.
func shedForByHand(s stand, class int, size int) ([]impl.Entry, bool) {
	order := shedByHand(s.list, class)
	for many := range len(order) + 1 {
		if fitsByHand(s.budget.Total, s.budget.Kept, usedAfter(s.budget, order[:many], class, size)) {
			return order[:many], true
		}
	}
	return nil, false
}

// answerByHand returns the answer to an item, and what is shed for it.
func answerByHand(s stand, class int, size int) (int, []impl.Entry) {
	if size > 20 {
		return impl.AnswerNever, nil
	}
	shed, ok := shedForByHand(s, class, size)
	switch {
	case !ok:
		return impl.AnswerLater, nil
	case len(shed) == 0:
		return impl.AnswerTake, nil
	}
	return impl.AnswerShed, shed
}

// waitByHand returns how often something comes at a rate until an item fits
// that does not.
func waitByHand(s stand, class int, size int, rate int) int {
	order := shedByHand(s.list, class)
	wait := 0
	for !fitsByHand(s.budget.Total, s.budget.Kept, usedAfter(s.budget, order, class, size-wait*rate)) {
		wait++
	}
	return wait
}

// sizesToAsk has the sizes that may be taken, the least that may not, and the
// greatest one.
func sizesToAsk() []int {
	sizes := []int{impl.MaxTotal}
	for size := range impl.MaxSize + 1 {
		sizes = append(sizes, size+1)
	}
	return sizes
}

// eachAsk calls a function with all stands, classes and sizes.
func eachAsk(f func(s stand, class int, size int)) {
	for _, s := range stands() {
		for class := range impl.Classes {
			for _, size := range sizesToAsk() {
				f(s, class, size)
			}
		}
	}
}

// wantNotTaken reports an error if an item is taken.
func wantNotTaken(t *testing.T, what string, s stand, class int, size int, name int) {
	t.Helper()
	b, left, ok := impl.TakeItem(s.budget, s.list, class, size, name)
	if !sameBudget(b, impl.Budget{}) || left != nil || ok {
		t.Errorf("%s: TakeItem of %d, %d, %d to %v = %v, %v, %v", what, class, size, name, s, b, left, ok)
	}
}

// wantNoAsk reports an error if an item fits to a budget and entries.
func wantNoAsk(t *testing.T, what string, s stand, class int, size int) {
	t.Helper()
	if impl.ValidAsk(s.budget, s.list, class, size) {
		t.Errorf("%s: %d, %d and %v fit", what, class, size, s)
	}
	if n := impl.AnswerFor(s.budget, s.list, class, size); n != -1 {
		t.Errorf("%s: AnswerFor %d, %d by %v = %d", what, class, size, s, n)
	}
	if names, ok := impl.ShedNames(s.budget, s.list, class, size); names != nil || ok {
		t.Errorf("%s: ShedNames for %d, %d by %v = %v, %v", what, class, size, s, names, ok)
	}
	for _, rate := range []int{1, 20, 0} {
		if n := impl.WaitFor(s.budget, s.list, class, size, rate); n != -1 {
			t.Errorf("%s: WaitFor %d, %d by %v = %d", what, class, size, s, n)
		}
	}
	for _, name := range []int{0, 97, -1, 100} {
		wantNotTaken(t, what, s, class, size, name)
	}
}

// P43: and asks without an item that there may be do not fit.
func TestAsksOfOtherClasses(t *testing.T) {
	eachAsk(func(s stand, class int, size int) {
		if !impl.ValidAsk(s.budget, s.list, class, size) {
			t.Errorf("%d, %d and %v do not fit", class, size, s)
		}
	})
	for i, s := range stands() {
		if i%5 > 0 {
			continue
		}
		for class := range impl.Classes {
			for _, size := range []int{0, -1, impl.MaxTotal + 1, leastInt, mostInt} {
				wantNoAsk(t, "size", s, class, size)
			}
		}
		for _, class := range otherClasses() {
			for _, size := range []int{1, 20, 21, 200, 0} {
				wantNoAsk(t, "class", s, class, size)
			}
		}
	}
}

// P43: Used of a budget has to be the sums of the sizes, class by class.
func TestAsksThatDoNotFit(t *testing.T) {
	for i, s := range stands() {
		if i%5 > 0 {
			continue
		}
		for class, used := range s.budget.Used {
			for _, n := range []int{used - 1, used + 1} {
				other := impl.Budget{Total: 200, Kept: times(3, 0), Used: with(s.budget.Used, class, n)}
				wantNoAsk(t, "1 byte", stand{other, s.list}, i%3, 1)
			}
			next := (class + 1) % impl.Classes
			swapped := with(with(s.budget.Used, class, s.budget.Used[next]), next, used)
			if used != s.budget.Used[next] {
				wantNoAsk(t, "swapped", stand{impl.Budget{Total: 200, Kept: times(3, 0), Used: swapped}, s.list}, i%3, 1)
			}
		}
		if len(s.list) > 0 {
			wantNoAsk(t, "left out", stand{s.budget, without(s.list, i%len(s.list))}, i%3, 1)
			wantNoAsk(t, "no entries", stand{s.budget, nil}, i%3, 1)
		}
	}
}

func TestAsksOfInvalidBudgets(t *testing.T) {
	for name, b := range invalidBudgets() {
		var list []impl.Entry
		for class, used := range b.Used[:min(3, len(b.Used))] {
			for ; used > 0 && len(list) < impl.MaxQueue; used -= impl.MaxSize {
				list = append(list, impl.Entry{Name: len(list), Class: class, Size: min(used, impl.MaxSize)})
			}
		}
		for class := range impl.Classes {
			wantNoAsk(t, name, stand{b, list}, class, 1)
			wantNoAsk(t, name, stand{b, list}, class, 21)
		}
	}
}

func TestAsksOfInvalidEntries(t *testing.T) {
	for name, list := range invalidLists() {
		b := impl.Budget{Total: 200, Kept: times(3, 0), Used: bytesOf(list)}
		for class := range impl.Classes {
			wantNoAsk(t, name, stand{b, list}, class, 1)
			wantNoAsk(t, name, stand{b, list}, class, 21)
		}
	}
}

// P44, P46, P51: answers, what is shed and waits, written by hand.
func TestAnswersByHand(t *testing.T) {
	list := []impl.Entry{{Name: 1, Class: 2, Size: 6}, {Name: 2, Class: 1, Size: 5}, {Name: 3, Class: 2, Size: 4}, {Name: 4, Class: 0, Size: 3}, {Name: 5, Class: 1, Size: 2}}
	budget := func(total int, kept ...int) stand {
		return stand{impl.Budget{Total: total, Kept: kept, Used: []int{3, 7, 10}}, list}
	}
	empty := func(total int, kept ...int) stand {
		return stand{impl.Budget{Total: total, Kept: kept, Used: []int{0, 0, 0}}, nil}
	}
	take, shed, later, never := impl.AnswerTake, impl.AnswerShed, impl.AnswerLater, impl.AnswerNever
	for name, c := range map[string]struct {
		s                               stand
		class, size, answer, rate, wait int
		names                           []int
	}{
		"just room":                   {budget(22, 0, 0, 0), 0, 2, take, 3, 0, nil},
		"1 too little":                {budget(22, 0, 0, 0), 0, 3, shed, 3, 0, []int{1}},
		"one is just enough":          {budget(22, 0, 0, 0), 0, 8, shed, 3, 0, []int{1}},
		"one is not enough":           {budget(22, 0, 0, 0), 0, 9, shed, 3, 0, []int{1, 3}},
		"a class is just enough":      {budget(22, 0, 0, 0), 0, 12, shed, 3, 0, []int{1, 3}},
		"the next class":              {budget(22, 0, 0, 0), 0, 13, shed, 3, 0, []int{1, 3, 2}},
		"everything":                  {budget(22, 0, 0, 0), 0, 19, shed, 3, 0, []int{1, 3, 2, 5}},
		"more than everything":        {budget(22, 0, 0, 0), 0, 20, later, 3, 1, nil},
		"only what is less important": {budget(22, 0, 0, 0), 1, 12, shed, 3, 0, []int{1, 3}},
		"equal ones are not shed":     {budget(22, 0, 0, 0), 1, 13, later, 3, 1, nil},
		"twice the rate":              {budget(22, 0, 0, 0), 1, 18, later, 3, 2, nil},
		"1 more than twice the rate":  {budget(22, 0, 0, 0), 1, 19, later, 3, 3, nil},
		"the last class":              {budget(22, 0, 0, 0), 2, 2, take, 3, 0, nil},
		"the last class waits":        {budget(22, 0, 0, 0), 2, 3, later, 3, 1, nil},
		"never":                       {budget(22, 0, 0, 0), 0, 21, never, 3, -1, nil},
		"never, though there is room": {budget(200, 0, 0, 0), 0, 21, never, 3, -1, nil},
		"never, the greatest size":    {budget(22, 0, 0, 0), 2, 200, never, 3, -1, nil},
		"the greatest item":           {budget(40, 0, 0, 0), 2, 20, take, 3, 0, nil},
		"kept for the class":          {budget(22, 5, 0, 0), 0, 2, take, 3, 0, nil},
		"kept for another class":      {budget(22, 5, 0, 0), 1, 1, shed, 3, 0, []int{1}},
		"kept, and shed":              {budget(22, 5, 0, 0), 1, 10, shed, 3, 0, []int{1, 3}},
		"kept for what is shed":       {budget(22, 0, 0, 10), 0, 3, shed, 3, 0, []int{1, 3, 2}},
		"some kept for what is shed":  {budget(22, 0, 0, 7), 0, 5, shed, 3, 0, []int{1}},
		"more kept for what is shed":  {budget(22, 0, 0, 7), 0, 6, shed, 3, 0, []int{1, 3, 2}},
		"all kept for what is shed":   {budget(22, 0, 7, 10), 0, 3, later, 3, 1, nil},
		"kept and cannot be used":     {budget(22, 0, 0, 12), 1, 1, later, 3, 1, nil},
		"kept and can be used":        {budget(22, 0, 0, 12), 2, 2, take, 3, 0, nil},
		"no bytes":                    {empty(0, 0, 0, 0), 0, 20, later, 5, 4, nil},
		"no bytes, the least item":    {empty(0, 0, 0, 0), 1, 1, later, 5, 1, nil},
		"nothing used":                {empty(5, 0, 0, 0), 1, 5, take, 5, 0, nil},
		"nothing to shed":             {empty(5, 0, 0, 0), 0, 6, later, 5, 1, nil},
		"all kept for others":         {empty(9, 0, 9, 0), 0, 11, later, 5, 3, nil},
	} {
		b, list := c.s.budget, c.s.list
		if n := impl.AnswerFor(b, list, c.class, c.size); n != c.answer {
			t.Errorf("%s: AnswerFor = %d", name, n)
		}
		names, ok := impl.ShedNames(b, list, c.class, c.size)
		if !slices.Equal(names, c.names) || ok != (c.answer == take || c.answer == shed) {
			t.Errorf("%s: ShedNames = %v, %v", name, names, ok)
		}
		if n := impl.WaitFor(b, list, c.class, c.size, c.rate); n != c.wait {
			t.Errorf("%s: WaitFor = %d", name, n)
		}
	}
}

// P44, P46, P47.
func TestAnswersAreByRoom(t *testing.T) {
	seen := map[int]int{}
	eachAsk(func(s stand, class int, size int) {
		want, shed := answerByHand(s, class, size)
		seen[want]++
		n := impl.AnswerFor(s.budget, s.list, class, size)
		room := impl.RoomFor(s.budget, class)
		if n != want || (n == impl.AnswerTake) != (size <= min(room, 20)) || (n == impl.AnswerNever) != (size > 20) {
			t.Errorf("AnswerFor %d, %d by %v = %d, not %d", class, size, s, n, want)
		}
		names, ok := impl.ShedNames(s.budget, s.list, class, size)
		if !slices.Equal(names, namesOf(shed)) || ok != (want == impl.AnswerTake || want == impl.AnswerShed) {
			t.Errorf("ShedNames for %d, %d by %v = %v, %v, not %v", class, size, s, names, ok, shed)
		}
		order := impl.ShedOrder(s.list, class)
		if len(names) > len(order) || !slices.Equal(names, order[:len(names)]) || ok && (len(names) == 0) != (want == impl.AnswerTake) {
			t.Errorf("ShedNames for %d, %d by %v = %v, and ShedOrder = %v", class, size, s, names, order)
		}
	})
	for answer := impl.AnswerTake; answer <= impl.AnswerNever; answer++ {
		if seen[answer] < 1000 {
			t.Errorf("the answer %d comes %d times", answer, seen[answer])
		}
	}
}

// P47.
func TestEnoughAndNoMoreIsShed(t *testing.T) {
	eachAsk(func(s stand, class int, size int) {
		names, _ := impl.ShedNames(s.budget, s.list, class, size)
		b, ok := s.budget, true
		for _, name := range names {
			if impl.RoomFor(b, class) >= size {
				t.Errorf("ShedNames for %d, %d by %v = %v, and %d need not be shed", class, size, s, names, name)
			}
			x := s.list[slices.Index(namesOf(s.list), name)]
			b, ok = impl.GiveCredit(b, x.Class, x.Size)
			if !ok {
				t.Fatalf("GiveCredit of %v fails", x)
			}
		}
		if len(names) > 0 && impl.RoomFor(b, class) < size {
			t.Errorf("ShedNames for %d, %d by %v = %v, which is not enough", class, size, s, names)
		}
	})
}

// P45, P151.
func TestSmallerItemsHaveBetterAnswers(t *testing.T) {
	for _, s := range stands() {
		for class := range impl.Classes {
			less := impl.AnswerTake
			for size := 1; size <= impl.MaxSize+5; size++ {
				n := impl.AnswerFor(s.budget, s.list, class, size)
				if n < less {
					t.Errorf("AnswerFor %d, %d by %v = %d, and 1 smaller %d", class, size, s, n, less)
				}
				if class == impl.Classes-1 && n == impl.AnswerShed {
					t.Errorf("AnswerFor %d, %d by %v = %d", class, size, s, n)
				}
				less = n
			}
		}
	}
}

// P48, P49, P50, P152.
func TestTakenItems(t *testing.T) {
	seen := map[bool]int{}
	eachAsk(func(s stand, class int, size int) {
		name := freeName(s.list)
		answer, shed := answerByHand(s, class, size)
		stay := withoutAll(s.list, shed)
		if answer == impl.AnswerLater || answer == impl.AnswerNever || len(stay) == impl.MaxQueue {
			seen[false]++
			wantNotTaken(t, "no room", s, class, size, name)
			return
		}
		seen[true]++
		want := impl.Budget{Total: s.budget.Total, Kept: s.budget.Kept, Used: usedAfter(s.budget, shed, class, size)}
		entries := slices.Concat(stay, []impl.Entry{{Name: name, Class: class, Size: size}})
		b, left, ok := impl.TakeItem(s.budget, s.list, class, size, name)
		wantBudget(t, "TakeItem", b, ok, want)
		if !slices.Equal(left, entries) || !impl.ValidAsk(b, left, class, size) {
			t.Errorf("TakeItem of %d, %d to %v = %v, %v, not %v", class, size, s, b, left, entries)
		}
		if impl.UsedAll(b) != impl.UsedAll(s.budget)+size-sizesOf(shed) {
			t.Errorf("TakeItem of %d, %d to %v = %v, and %v are shed", class, size, s, b, shed)
		}
	})
	if seen[false] < 1000 || seen[true] < 1000 {
		t.Errorf("items are taken and not taken: %v", seen)
	}
}

// P50: names of entries that stay are not new, and those of shed ones are.
func TestNamesOfTakenItems(t *testing.T) {
	for i, s := range stands() {
		class, size := i%3, 1+i/3%20
		answer, shed := answerByHand(s, class, size)
		if answer == impl.AnswerLater {
			continue
		}
		stay := withoutAll(s.list, shed)
		for _, name := range join(namesOf(stay), []int{-1, impl.MaxName + 1, leastInt, mostInt}) {
			wantNotTaken(t, "name", s, class, size, name)
		}
		if len(stay) == impl.MaxQueue {
			continue
		}
		for _, name := range join(namesOf(shed), []int{0, impl.MaxName}) {
			if slices.Contains(namesOf(stay), name) {
				continue
			}
			x := impl.Entry{Name: name, Class: class, Size: size}
			b, left, ok := impl.TakeItem(s.budget, s.list, class, size, name)
			if !ok || !slices.Equal(left, slices.Concat(stay, []impl.Entry{x})) || !impl.ValidAsk(b, left, 0, 1) {
				t.Errorf("TakeItem of %v to %v = %v, %v, %v", x, s, b, left, ok)
			}
		}
	}
}

// P48, P50: with as many entries as there may be, an item is taken only if
// another one is shed for it.
func TestFullLists(t *testing.T) {
	list := fullList(1)
	list[3].Class, list[7].Class = 2, 2
	b := impl.Budget{Total: 200, Kept: times(3, 0), Used: []int{0, 160, 40}}
	c, left, ok := impl.TakeItem(b, list, 0, 20, 39)
	if !ok || !slices.Equal(c.Used, []int{20, 160, 20}) || !slices.Equal(left, slices.Concat(without(list, 3), []impl.Entry{{Name: 39, Class: 0, Size: 20}})) {
		t.Errorf("TakeItem = %v, %v, %v", c, left, ok)
	}
	small := slices.Clone(list)
	for i := range small {
		small[i].Size = 1
	}
	roomy := stand{impl.Budget{Total: 200, Kept: times(3, 0), Used: []int{0, 8, 2}}, small}
	if n := impl.AnswerFor(roomy.budget, small, 0, 20); n != impl.AnswerTake {
		t.Errorf("AnswerFor = %d", n)
	}
	wantNotTaken(t, "one entry more", roomy, 0, 20, 0)
	wantNotTaken(t, "one entry more", roomy, 2, 1, 0)
	roomy.list, roomy.budget.Used = without(small, 0), []int{0, 7, 2}
	c, left, ok = impl.TakeItem(roomy.budget, roomy.list, 2, 1, 9)
	if !ok || !slices.Equal(c.Used, []int{0, 7, 3}) || len(left) != impl.MaxQueue || left[9] != (impl.Entry{Name: 9, Class: 2, Size: 1}) {
		t.Errorf("TakeItem = %v, %v, %v", c, left, ok)
	}
}

// P51, P52, P153: for all rates.
func TestWaits(t *testing.T) {
	for _, s := range stands() {
		for class := range impl.Classes {
			smaller := waitsAtRates(s, class, 1)
			for size := 1; size <= impl.MaxSize; size++ {
				waits := waitsAtRates(s, class, size)
				answer, _ := answerByHand(s, class, size)
				for i, n := range waits {
					want := 0
					if answer == impl.AnswerLater {
						want = waitByHand(s, class, size, i+1)
					}
					if n != want || (n == 0) != (answer != impl.AnswerLater) || n > waits[max(i-1, 0)] || n < smaller[i] {
						t.Errorf("WaitFor %d, %d by %v = %v, and %d for the rate %d", class, size, s, waits, want, i+1)
					}
				}
				if waits[0] > size {
					t.Errorf("WaitFor %d, %d by %v = %v", class, size, s, waits)
				}
				smaller = waits
			}
		}
	}
}

// waitsAtRates returns WaitFor an item for all rates from 1 on.
func waitsAtRates(s stand, class int, size int) []int {
	var waits []int
	for i := range impl.MaxSize {
		waits = append(waits, impl.WaitFor(s.budget, s.list, class, size, i+1))
	}
	return waits
}

// P51: nobody waits for what is never taken, or by a rate that there is not.
func TestNobodyWaits(t *testing.T) {
	for _, s := range stands() {
		for class := range impl.Classes {
			for _, size := range []int{impl.MaxSize + 1, impl.MaxTotal} {
				for _, rate := range []int{1, 7, 20, 0, 21} {
					if n := impl.WaitFor(s.budget, s.list, class, size, rate); n != -1 {
						t.Errorf("WaitFor %d, %d by %v at %d = %d", class, size, s, rate, n)
					}
				}
			}
			for _, size := range []int{1, impl.MaxSize} {
				for _, rate := range []int{0, -1, impl.MaxSize + 1, leastInt, mostInt} {
					if n := impl.WaitFor(s.budget, s.list, class, size, rate); n != -1 {
						t.Errorf("WaitFor %d, %d by %v at %d = %d", class, size, s, rate, n)
					}
				}
			}
		}
	}
}

func TestAnswersShareNoMemory(t *testing.T) {
	list := line(2, 3, 1, 2, 0, 3, 2, 5)
	used := []int{3, 2, 8}
	one := spare(used)
	for name, b := range map[string]impl.Budget{
		"apart": {Total: 16, Kept: spare(times(3, 1)), Used: spare(used)},
		"one":   {Total: 16, Kept: one, Used: one},
	} {
		kept := slices.Clone(b.Kept)
		for size := 1; size <= impl.MaxSize; size++ {
			s := stand{b, spare(list)}
			names, _ := impl.ShedNames(b, s.list, 0, size)
			overwrite(names, 77)
			c, left, ok := impl.TakeItem(b, s.list, 0, size, 50)
			overwrite(left, impl.Entry{Name: 77})
			overwrite(c.Used, 77)
			if ok && !slices.Equal(c.Kept, kept) {
				t.Errorf("%s: Kept and Used share memory: %v", name, c)
			}
			overwrite(c.Kept, 77)
			impl.AnswerFor(b, s.list, 0, size)
			impl.WaitFor(b, s.list, 0, size, 1)
			if !slices.Equal(b.Used, used) || !zeros(behind(b.Used)) || !slices.Equal(b.Kept, kept) || !zeros(behind(b.Kept)) {
				t.Fatalf("%s: the budget is changed: %v", name, b)
			}
			if !slices.Equal(s.list, list) || !zeros(behind(s.list)) {
				t.Fatalf("%s: the entries are changed: %v", name, s.list)
			}
		}
	}
}
