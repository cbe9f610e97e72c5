package tests

import (
	"slices"
	"testing"

	"loop.example/telemetryagent/impl"
)

func sameQueue(a impl.Queue, b impl.Queue) bool {
	return slices.Equal(a.List, b.List) && slices.Equal(a.Share, b.Share) && slices.Equal(a.Debt, b.Debt) && a.Turn == b.Turn
}

// line returns entries with some classes and sizes, which take turns, and
// with names that do not ascend.
func line(parts ...int) []impl.Entry {
	var list []impl.Entry
	for i := 0; i < len(parts); i += 2 {
		list = append(list, impl.Entry{Name: (99 + 37*i) % 100, Class: parts[i], Size: parts[i+1]})
	}
	return list
}

// without returns entries of which one is left out.
func without(list []impl.Entry, at int) []impl.Entry {
	return slices.Delete(slices.Clone(list), at, at+1)
}

// ofClass returns the entries of a class.
func ofClass(list []impl.Entry, class int) []impl.Entry {
	return slices.DeleteFunc(slices.Clone(list), func(x impl.Entry) bool { return x.Class != class })
}

// sizesOf returns the sum of the sizes of entries.
func sizesOf(list []impl.Entry) int {
	sum := 0
	for _, x := range list {
		sum += x.Size
	}
	return sum
}

// validQueues has queues of all lengths, with classes that have no entry,
// shares and debts from the least to the greatest, and all turns.
func validQueues() []impl.Queue {
	d := dice{state: 4}
	var list []impl.Queue
	for i := range 4000 {
		q := impl.Queue{Turn: i % impl.Classes}
		some := []int{d.roll(3), d.roll(3), d.roll(3)}
		for name := range d.roll(impl.MaxQueue + 1) {
			q.List = append(q.List, impl.Entry{Name: (d.roll(10)*10 + name*11) % 100, Class: some[d.roll(3)], Size: 1 + d.roll(20)})
		}
		for range impl.Classes {
			q.Share = append(q.Share, []int{1, 1 + d.roll(20), 20}[d.roll(3)])
			q.Debt = append(q.Debt, []int{0, d.roll(21), d.roll(41), 40}[d.roll(4)])
		}
		names := map[int]bool{}
		q.List = slices.DeleteFunc(q.List, func(x impl.Entry) bool {
			again := names[x.Name]
			names[x.Name] = true
			return again
		})
		list = append(list, q)
	}
	return append(list, edgeQueues()...)
}

// edgeQueues has queues with all numbers at their limits.
func edgeQueues() []impl.Queue {
	var full []impl.Entry
	for i := range impl.MaxQueue {
		full = append(full, impl.Entry{Name: 99 - 11*i, Class: i % 3, Size: 20})
	}
	var list []impl.Queue
	for _, entries := range [][]impl.Entry{nil, line(0, 1), line(2, 20), full, ofClass(full, 0), ofClass(full, 1), ofClass(full, 2)} {
		for _, share := range []int{1, 20} {
			for _, debt := range []int{0, 1, 19, 20, 40} {
				for turn := range impl.Classes {
					list = append(list, impl.Queue{List: entries, Share: times(3, share), Debt: times(3, debt), Turn: turn})
				}
			}
		}
	}
	return list
}

// invalidLists has entries that no queue has.
func invalidLists() map[string][]impl.Entry {
	one := func(x impl.Entry) []impl.Entry { return []impl.Entry{{Name: 1, Size: 1}, x} }
	return map[string][]impl.Entry{
		"many entries":        line(0, 1, 0, 1, 0, 1, 0, 1, 0, 1, 0, 1, 0, 1, 0, 1, 0, 1, 0, 1, 0, 1),
		"far too many":        make([]impl.Entry, 200),
		"name below":          one(impl.Entry{Name: -1, Size: 1}),
		"name above":          one(impl.Entry{Name: 100, Size: 1}),
		"least name":          one(impl.Entry{Name: leastInt, Size: 1}),
		"greatest name":       one(impl.Entry{Name: mostInt, Size: 1}),
		"same name":           one(impl.Entry{Name: 1, Size: 1}),
		"same name elsewhere": one(impl.Entry{Name: 1, Class: 2, Size: 20}),
		"class below":         one(impl.Entry{Name: 2, Class: -1, Size: 1}),
		"class above":         one(impl.Entry{Name: 2, Class: 3, Size: 1}),
		"least class":         one(impl.Entry{Name: 2, Class: leastInt, Size: 1}),
		"greatest class":      one(impl.Entry{Name: 2, Class: mostInt, Size: 1}),
		"size 0":              one(impl.Entry{Name: 2}),
		"size above":          one(impl.Entry{Name: 2, Size: 21}),
		"least size":          one(impl.Entry{Name: 2, Size: leastInt}),
		"greatest size":       one(impl.Entry{Name: 2, Size: mostInt}),
	}
}

func invalidQueues() map[string]impl.Queue {
	two := line(0, 5, 1, 5)
	share := func(share ...int) impl.Queue { return impl.Queue{List: two, Share: share, Debt: times(3, 0)} }
	debt := func(debt ...int) impl.Queue { return impl.Queue{List: two, Share: times(3, 1), Debt: debt} }
	turn := func(turn int) impl.Queue {
		return impl.Queue{List: two, Share: times(3, 1), Debt: times(3, 9), Turn: turn}
	}
	queues := map[string]impl.Queue{
		"nothing at all":    {},
		"no shares":         share(),
		"few shares":        share(1, 1),
		"many shares":       share(1, 1, 1, 1),
		"share 0, first":    share(0, 1, 1),
		"share 0, last":     share(1, 1, 0),
		"shares 0":          share(0, 0, 0),
		"share above":       share(1, 21, 1),
		"least share":       share(leastInt, 1, 1),
		"greatest share":    share(mostInt, 1, 1),
		"no debts":          debt(),
		"few debts":         debt(0, 0),
		"many debts":        debt(0, 0, 0, 0),
		"debt below, first": debt(-1, 0, 0),
		"debt below, last":  debt(0, 0, -1),
		"debt above":        debt(0, 41, 0),
		"least debt":        debt(leastInt, 0, 0),
		"greatest debt":     debt(mostInt, 0, 0),
		"few of both":       {List: two, Share: times(2, 1), Debt: times(2, 1)},
		"turn below":        turn(-1),
		"turn above":        turn(3),
		"least turn":        turn(leastInt),
		"greatest turn":     turn(mostInt),
	}
	for name, list := range invalidLists() {
		queues[name] = impl.Queue{List: list, Share: times(3, 1), Debt: times(3, 0)}
	}
	return queues
}

// popByHand returns where the entry is that leaves a queue next, and the
// debts and the turn then; -1 if there are no entries. It goes on by steps of
// the document, looking for the oldest entry each time.
func popByHand(q impl.Queue) (int, []int, int) {
	debt := slices.Clone(q.Debt)
	oldest := func(class int) int {
		return slices.IndexFunc(q.List, func(x impl.Entry) bool { return x.Class == class })
	}
	if len(q.List) == 0 {
		return -1, debt, q.Turn
	}
	turn := q.Turn
	for {
		at := oldest(turn)
		if at >= 0 && debt[turn] >= q.List[at].Size {
			debt[turn] -= q.List[at].Size
			return at, debt, turn
		}
		if at < 0 {
			debt[turn] = 0
		}
		turn = []int{1, 2, 0}[turn]
		if oldest(turn) >= 0 {
			debt[turn] += q.Share[turn]
			if debt[turn] > 40 {
				debt[turn] = 40
			}
		}
	}
}

// freeName returns a name that no entry has.
func freeName(list []impl.Entry) int {
	name := 0
	for slices.ContainsFunc(list, func(x impl.Entry) bool { return x.Name == name }) {
		name++
	}
	return name
}

// wantNoQueue reports an error if a result is not the zero value and false.
func wantNoQueue(t *testing.T, what string, q impl.Queue, ok bool) {
	t.Helper()
	if ok || !sameQueue(q, impl.Queue{}) {
		t.Errorf("%s = %v, %v", what, q, ok)
	}
}

// P26, P141: and limits are inclusive.
func TestValidQueue(t *testing.T) {
	for _, q := range validQueues() {
		if !impl.ValidQueue(q) {
			t.Errorf("%v is not valid", q)
		}
		for i := range q.List {
			if r := (impl.Queue{List: without(q.List, i), Share: q.Share, Debt: q.Debt, Turn: q.Turn}); !impl.ValidQueue(r) {
				t.Errorf("%v is not valid", r)
			}
		}
		empty := impl.Queue{Share: q.Share, Debt: q.Debt, Turn: q.Turn}
		if !impl.ValidQueue(empty) {
			t.Errorf("%v is not valid", empty)
		}
		x, r, ok := impl.PopEntry(empty)
		if x != (impl.Entry{}) {
			t.Errorf("PopEntry without entries = %v", x)
		}
		wantNoQueue(t, "PopEntry without entries", r, ok)
		if list := impl.PopAll(empty); len(list) != 0 {
			t.Errorf("PopAll without entries = %v", list)
		}
		if n := impl.QueueBytes(empty); !slices.Equal(n, times(3, 0)) {
			t.Errorf("QueueBytes without entries = %v", n)
		}
	}
}

func TestInvalidQueues(t *testing.T) {
	for name, q := range invalidQueues() {
		if impl.ValidQueue(q) {
			t.Errorf("%s: %v is valid", name, q)
		}
		r, ok := impl.PushEntry(q, impl.Entry{Name: 50, Size: 1})
		wantNoQueue(t, name+": PushEntry", r, ok)
		x, r, ok := impl.PopEntry(q)
		if x != (impl.Entry{}) {
			t.Errorf("%s: PopEntry = %v", name, x)
		}
		wantNoQueue(t, name+": PopEntry", r, ok)
		if list := impl.PopAll(q); list != nil {
			t.Errorf("%s: PopAll = %v", name, list)
		}
		if n := impl.QueueBytes(q); n != nil {
			t.Errorf("%s: QueueBytes = %v", name, n)
		}
	}
}

// P27, P28, P142.
func TestPushedEntriesAreLast(t *testing.T) {
	for i, q := range validQueues() {
		x := impl.Entry{Name: freeName(q.List), Class: i / 2 % 3, Size: 1 + i%20}
		r, ok := impl.PushEntry(q, x)
		if len(q.List) == impl.MaxQueue {
			wantNoQueue(t, "PushEntry of one entry more", r, ok)
			continue
		}
		want := impl.Queue{List: slices.Concat(q.List, []impl.Entry{x}), Share: q.Share, Debt: q.Debt, Turn: q.Turn}
		if !ok || !sameQueue(r, want) {
			t.Fatalf("PushEntry of %v to %v = %v, %v", x, q, r, ok)
		}
		bytes := impl.QueueBytes(q)
		if !slices.Equal(impl.QueueBytes(r), with(bytes, x.Class, bytes[x.Class]+x.Size)) {
			t.Errorf("QueueBytes after PushEntry of %v to %v = %v", x, q, impl.QueueBytes(r))
		}
		all := impl.PopAll(r)
		if len(all) != len(impl.PopAll(q))+1 || !slices.Contains(all, x) {
			t.Errorf("PopAll after PushEntry of %v to %v = %v", x, q, all)
		}
		again, ok := impl.PushEntry(r, x)
		wantNoQueue(t, "PushEntry a second time", again, ok)
		again, ok = impl.PushEntry(r, impl.Entry{Name: x.Name, Class: (x.Class + 1) % 3, Size: 1})
		wantNoQueue(t, "PushEntry of a name that is there", again, ok)
	}
}

// P27: entries that no queue has.
func TestEntriesThatAreNotPushed(t *testing.T) {
	q := impl.Queue{List: line(0, 5, 1, 5), Share: []int{1, 2, 3}, Debt: []int{4, 5, 6}, Turn: 1}
	for _, x := range []impl.Entry{
		{Name: -1, Class: 1, Size: 1}, {Name: 100, Class: 1, Size: 1}, {Name: leastInt, Size: 1}, {Name: mostInt, Size: 1},
		{Name: 1, Class: -1, Size: 1}, {Name: 1, Class: 3, Size: 1}, {Name: 1, Class: leastInt, Size: 1}, {Name: 1, Class: mostInt, Size: 1},
		{Name: 1, Class: 1, Size: 0}, {Name: 1, Class: 1, Size: -1}, {Name: 1, Class: 1, Size: 21}, {Name: 1, Size: mostInt}, {Name: 1, Size: leastInt},
	} {
		r, ok := impl.PushEntry(q, x)
		wantNoQueue(t, "PushEntry", r, ok)
	}
	for _, x := range []impl.Entry{{Name: 0, Class: 0, Size: 1}, {Name: 98, Class: 2, Size: 20}} {
		if r, ok := impl.PushEntry(q, x); !ok || len(r.List) != 3 || r.List[2] != x {
			t.Errorf("PushEntry of %v = %v, %v", x, r, ok)
		}
	}
}

// P29, P34: and debts and turns are as the document says step by step.
func TestPoppedEntriesLeave(t *testing.T) {
	for _, q := range validQueues() {
		at, debt, turn := popByHand(q)
		if at < 0 {
			continue
		}
		want := impl.Queue{List: without(q.List, at), Share: q.Share, Debt: debt, Turn: turn}
		x, r, ok := impl.PopEntry(q)
		if !ok || x != q.List[at] || !sameQueue(r, want) || !impl.ValidQueue(r) {
			t.Errorf("PopEntry of %v = %v, %v, %v, not %v", q, x, r, ok, want)
			continue
		}
		if x != ofClass(q.List, x.Class)[0] {
			t.Errorf("PopEntry of %v = %v, which is not the oldest one", q, x)
		}
		bytes := impl.QueueBytes(q)
		if !slices.Equal(impl.QueueBytes(r), with(bytes, x.Class, bytes[x.Class]-x.Size)) {
			t.Errorf("QueueBytes after PopEntry of %v = %v", q, impl.QueueBytes(r))
		}
	}
}

// P29, P30: the debts and the turn after an entry left, written by hand.
func TestDebtsAndTurns(t *testing.T) {
	three := line(0, 5, 1, 5, 2, 5)
	for name, c := range map[string]struct {
		list              []impl.Entry
		share, debt       []int
		turn, class, next int
		left              []int
	}{
		"debt is enough":              {three, []int{9, 9, 9}, []int{7, 6, 6}, 0, 0, 0, []int{2, 6, 6}},
		"debt is just enough":         {three, []int{9, 9, 9}, []int{5, 6, 6}, 0, 0, 0, []int{0, 6, 6}},
		"debt is 1 too little":        {three, []int{9, 9, 9}, []int{4, 6, 6}, 0, 1, 1, []int{4, 10, 6}},
		"share makes it just enough":  {three, []int{9, 5, 9}, []int{4, 0, 0}, 0, 1, 1, []int{4, 0, 0}},
		"share is 1 too little":       {three, []int{9, 4, 5}, []int{4, 0, 0}, 0, 2, 2, []int{4, 4, 0}},
		"the own share, at last":      {three, []int{1, 2, 1}, []int{4, 0, 0}, 0, 0, 0, []int{0, 2, 1}},
		"no share for the turn":       {three, []int{9, 1, 1}, []int{0, 0, 0}, 0, 0, 0, []int{4, 1, 1}},
		"behind the last one":         {three, []int{9, 9, 9}, []int{0, 0, 4}, 2, 0, 0, []int{4, 0, 4}},
		"two rounds":                  {three, []int{1, 2, 2}, []int{0, 0, 0}, 1, 2, 2, []int{2, 4, 1}},
		"empty class at its turn":     {line(1, 5, 2, 5), []int{9, 9, 9}, []int{8, 0, 0}, 0, 1, 1, []int{0, 4, 0}},
		"empty class on the way":      {line(0, 5, 2, 5), []int{9, 9, 9}, []int{0, 8, 0}, 0, 2, 2, []int{0, 0, 4}},
		"empty class behind":          {line(0, 5, 1, 5), []int{9, 9, 9}, []int{0, 0, 8}, 0, 1, 1, []int{0, 4, 8}},
		"empty classes keep":          {line(1, 5), []int{9, 9, 9}, []int{8, 5, 8}, 1, 1, 1, []int{8, 0, 8}},
		"empty classes around":        {line(1, 5), []int{20, 1, 20}, []int{8, 4, 40}, 1, 1, 1, []int{0, 0, 0}},
		"empty class gets no share":   {line(0, 20), []int{20, 20, 20}, []int{0, 0, 0}, 0, 0, 0, []int{0, 0, 0}},
		"many rounds":                 {line(2, 20), []int{20, 20, 1}, []int{40, 40, 0}, 2, 2, 2, []int{0, 0, 0}},
		"at most twice the size":      {line(0, 5, 1, 20), []int{9, 20, 9}, []int{4, 35, 0}, 0, 1, 1, []int{4, 20, 0}},
		"just at most":                {line(0, 5, 1, 20), []int{9, 5, 9}, []int{4, 35, 0}, 0, 1, 1, []int{4, 20, 0}},
		"1 below the most":            {line(0, 5, 1, 20), []int{9, 4, 9}, []int{4, 35, 0}, 0, 1, 1, []int{4, 19, 0}},
		"most, and a share":           {line(0, 5, 1, 1), []int{9, 1, 9}, []int{4, 40, 0}, 0, 1, 1, []int{4, 39, 0}},
		"the oldest one is too large": {line(0, 9, 0, 1, 1, 5), []int{1, 5, 1}, []int{8, 0, 0}, 0, 1, 1, []int{8, 0, 0}},
		"the oldest one is small":     {line(1, 5, 0, 1, 0, 9), []int{1, 5, 1}, []int{8, 0, 0}, 0, 0, 0, []int{7, 0, 0}},
	} {
		q := impl.Queue{List: c.list, Share: c.share, Debt: c.debt, Turn: c.turn}
		x, r, ok := impl.PopEntry(q)
		if !ok || x != ofClass(c.list, c.class)[0] || r.Turn != c.next || !slices.Equal(r.Debt, c.left) || !slices.Equal(r.Share, c.share) {
			t.Errorf("%s: PopEntry of %v = %v, %v, %v", name, q, x, r, ok)
		}
	}
}

// P30.
func TestTurnsGoOnWhileThereIsDebt(t *testing.T) {
	for _, q := range validQueues() {
		list := ofClass(q.List, q.Turn)
		if len(list) == 0 || list[0].Size > q.Debt[q.Turn] {
			continue
		}
		x, r, ok := impl.PopEntry(q)
		left := with(q.Debt, q.Turn, q.Debt[q.Turn]-x.Size)
		if !ok || x != list[0] || r.Turn != q.Turn || !slices.Equal(r.Debt, left) {
			t.Errorf("PopEntry of %v = %v, %v, %v", q, x, r, ok)
		}
	}
}

// P31, P32, P144.
func TestAllEntriesLeave(t *testing.T) {
	for _, q := range validQueues() {
		all := impl.PopAll(q)
		if len(all) != len(q.List) || sizesOf(all) != sizesOf(q.List) {
			t.Errorf("PopAll of %v = %v", q, all)
		}
		for class := range impl.Classes {
			if !slices.Equal(ofClass(all, class), ofClass(q.List, class)) {
				t.Errorf("PopAll of %v = %v, in another order", q, all)
			}
		}
		if x, r, ok := impl.PopEntry(q); ok {
			if !slices.Equal(all, slices.Concat([]impl.Entry{x}, impl.PopAll(r))) {
				t.Errorf("PopAll of %v = %v, and after PopEntry = %v", q, all, impl.PopAll(r))
			}
		}
	}
}

// P31: the order in which entries leave, written by hand.
func TestOrderOfPopAll(t *testing.T) {
	q := impl.Queue{List: line(0, 10, 0, 2, 1, 3, 2, 7, 2, 1, 1, 9), Share: []int{6, 4, 8}, Debt: []int{0, 0, 0}, Turn: 2}
	want := []int{2, 3, 4, 0, 1, 5}
	var order []int
	for _, x := range impl.PopAll(q) {
		order = append(order, slices.Index(q.List, x))
	}
	if !slices.Equal(order, want) {
		t.Errorf("PopAll has the places %v, not %v", order, want)
	}
}

// P143.
func TestEverybodyHasTurns(t *testing.T) {
	for turn := range impl.Classes {
		for _, list := range [][]impl.Entry{
			line(0, 20, 0, 20, 1, 20, 1, 20, 2, 20, 2, 20),
			line(2, 20, 1, 20, 0, 20, 0, 20, 1, 20, 2, 20),
		} {
			q := impl.Queue{List: list, Share: times(3, 20), Debt: times(3, 0), Turn: turn}
			all := impl.PopAll(q)
			if len(all) != 6 {
				t.Fatalf("PopAll of %v = %v", q, all)
			}
			for i, x := range all {
				if x.Class != (turn+1+i)%3 {
					t.Errorf("PopAll of %v = %v", q, all)
				}
			}
		}
	}
}

// P33, P145.
func TestBytesAddUp(t *testing.T) {
	for _, q := range validQueues() {
		bytes := impl.QueueBytes(q)
		if len(bytes) != 3 || bytes[0]+bytes[1]+bytes[2] != sizesOf(q.List) {
			t.Errorf("QueueBytes of %v = %v", q, bytes)
			continue
		}
		for class := range impl.Classes {
			alone := impl.Queue{List: ofClass(q.List, class), Share: q.Share, Debt: q.Debt, Turn: q.Turn}
			want := with(times(3, 0), class, sizesOf(alone.List))
			if n := impl.QueueBytes(alone); !slices.Equal(n, want) || n[class] != bytes[class] {
				t.Errorf("QueueBytes of %v = %v", alone, n)
			}
		}
	}
}

func TestQueuesShareNoMemory(t *testing.T) {
	same := spare([]int{5, 6, 7})
	for name, q := range map[string]impl.Queue{
		"apart": {List: spare(line(1, 9, 0, 2, 1, 3)), Share: spare([]int{5, 6, 7}), Debt: spare([]int{5, 6, 7})},
		"one":   {List: spare(line(1, 9, 0, 2, 1, 3)), Share: same, Debt: same},
		"turn":  {List: spare(line(1, 9, 0, 20, 1, 3)), Share: same, Debt: same, Turn: 2},
	} {
		list := slices.Clone(q.List)
		for _, change := range []func() (impl.Queue, bool){
			func() (impl.Queue, bool) { return impl.PushEntry(q, impl.Entry{Name: 1, Size: 1}) },
			func() (impl.Queue, bool) { _, r, ok := impl.PopEntry(q); return r, ok },
			func() (impl.Queue, bool) { return impl.Queue{List: impl.PopAll(q)}, true },
			func() (impl.Queue, bool) { return impl.Queue{Debt: impl.QueueBytes(q)}, true },
		} {
			r, ok := change()
			if !ok {
				t.Fatalf("%s: PushEntry or PopEntry of %v fails", name, q)
			}
			overwrite(r.List, impl.Entry{Name: 77})
			overwrite(r.Debt, 77)
			if r.Share != nil && !slices.Equal(r.Share, []int{5, 6, 7}) {
				t.Errorf("%s: Share and Debt share memory: %v", name, r)
			}
			overwrite(r.Share, 77)
			if !slices.Equal(q.List, list) || !zeros(behind(q.List)) {
				t.Fatalf("%s: the entries are changed: %v", name, q)
			}
			for _, numbers := range [][]int{q.Share, q.Debt} {
				if !slices.Equal(numbers, []int{5, 6, 7}) || !zeros(behind(numbers)) {
					t.Fatalf("%s: the argument is changed: %v", name, q)
				}
			}
		}
	}
}
