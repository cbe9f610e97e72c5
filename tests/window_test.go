package tests

import (
	"slices"
	"testing"

	"loop.example/telemetryagent/impl"
)

// window returns a window.
func window(base int, next int, acked ...int) impl.Window {
	return impl.Window{Base: base, Next: next, Acked: acked}
}

// sameWindow reports whether two windows are the same.
func sameWindow(a impl.Window, b impl.Window) bool {
	return a.Base == b.Base && a.Next == b.Next && slices.Equal(a.Acked, b.Acked)
}

// noWindow reports whether a window is the zero value.
func noWindow(w impl.Window) bool {
	return w.Base == 0 && w.Next == 0 && w.Acked == nil
}

// eachWindow calls a function with all valid windows from some batches on.
func eachWindow(f func(w impl.Window)) {
	for _, base := range []int{0, 1, 2, 7, 8, 9, 500, 991, 992, 993, 998, 999, 1000} {
		f(window(base, base))
		for next := base + 1; next <= base+8; next++ {
			lists := [][]int{nil}
			for n := base + 1; n < next; n++ {
				for _, list := range lists {
					lists = append(lists, join(list, []int{n}))
				}
			}
			for _, acked := range lists {
				f(window(base, next, acked...))
			}
		}
	}
}

// someBatches returns batches that were sent: some before Base, and all from
// Base on.
func someBatches(w impl.Window) []int {
	var list []int
	for _, n := range []int{0, 1, w.Base / 2, w.Base - 9, w.Base - 8, w.Base - 2, w.Base - 1} {
		if 0 <= n && n < w.Base {
			list = append(list, n)
		}
	}
	for n := w.Base; n < w.Next; n++ {
		list = append(list, n)
	}
	return list
}

// isAcked tells for each batch that was sent whether it is acknowledged.
func isAcked(w impl.Window) []bool {
	acked := make([]bool, w.Next)
	for n := range acked {
		acked[n] = n < w.Base || slices.Contains(w.Acked, n)
	}
	return acked
}

// ackByHand returns the window after a batch is acknowledged, and whether it
// goes not too far.
func ackByHand(w impl.Window, n int) (impl.Window, bool) {
	acked := isAcked(w)
	acked[n] = true
	next := impl.Window{Base: slices.Index(acked, false), Next: len(acked)}
	if next.Base < 0 {
		next.Base = len(acked)
	}
	for i := next.Base; i < len(acked); i++ {
		if acked[i] {
			next.Acked = append(next.Acked, i)
		}
	}
	return next, next.Base <= 1000
}

// openByHand returns the batches that were sent and are not acknowledged.
func openByHand(w impl.Window) []int {
	var open []int
	for n, acked := range isAcked(w) {
		if !acked {
			open = append(open, n)
		}
	}
	return open
}

// ackAll returns a window after batches are acknowledged, one after the other.
func ackAll(w impl.Window, list ...int) (impl.Window, bool) {
	ok := true
	for _, n := range list {
		if w, ok = impl.AckBatch(w, n); !ok {
			break
		}
	}
	return w, ok
}

// wantNoWindow reports an error if a window is valid.
func wantNoWindow(t *testing.T, name string, w impl.Window) {
	t.Helper()
	if impl.ValidWindow(w) {
		t.Errorf("%s: %v is valid", name, w)
	}
	if next, n, ok := impl.SendNext(w); ok || n != -1 || !noWindow(next) {
		t.Errorf("%s: SendNext of %v = %v, %d, %t", name, w, next, n, ok)
	}
	for _, n := range []int{0, 1, 5, 6, 7, w.Base - 1, w.Base, w.Base + 1, w.Next - 1, w.Next, leastInt, mostInt} {
		if next, ok := impl.AckBatch(w, n); ok || !noWindow(next) {
			t.Errorf("%s: AckBatch of %v, %d = %v, %t", name, w, n, next, ok)
		}
	}
	if open := impl.OpenBatches(w); open != nil {
		t.Errorf("%s: OpenBatches of %v = %v", name, w, open)
	}
	for _, many := range []int{1, 2, 8, 0, -1, 9, leastInt, mostInt} {
		if lost := impl.LostBatches(w, many); lost != nil {
			t.Errorf("%s: LostBatches of %v, %d = %v", name, w, many, lost)
		}
	}
}

func TestInvalidWindows(t *testing.T) {
	for name, w := range map[string]impl.Window{
		"base below":              window(-1, 0),
		"base below, next, too":   window(-1, -1),
		"base below, acked":       window(-1, 5, 0, 1),
		"base far below":          window(-1000, -995),
		"base above":              window(1001, 1001),
		"base above, open":        window(1001, 1005),
		"least base":              window(leastInt, leastInt),
		"least base, next behind": window(leastInt, 0),
		"greatest base":           window(mostInt, mostInt),
		"greatest base, around":   window(mostInt, leastInt+3),
		"nearly greatest base":    window(mostInt-7, mostInt),
		"next before base":        window(5, 4),
		"next before base, 0":     window(1, 0),
		"next far before base":    window(1000, 0),
		"next below":              window(0, -1),
		"least next":              window(0, leastInt),
		"greatest next":           window(0, mostInt),
		"next too far":            window(5, 14),
		"next too far, from 0":    window(0, 9),
		"next too far, at last":   window(1000, 1009),
		"next too far, all acked": window(0, 9, 1, 2, 3, 4, 5, 6, 7, 8),
		"base acked":              window(5, 9, 5),
		"base acked, and more":    window(5, 9, 5, 6),
		"base 0 acked":            window(0, 1, 0),
		"acked before base":       window(5, 9, 4),
		"acked before, and more":  window(5, 9, 4, 7),
		"acked 0":                 window(5, 9, 0),
		"acked below":             window(5, 9, -1),
		"least acked":             window(5, 9, leastInt),
		"next acked":              window(5, 9, 9),
		"next acked, and more":    window(5, 9, 6, 9),
		"acked behind next":       window(5, 9, 10),
		"acked far behind next":   window(5, 9, 500),
		"greatest acked":          window(5, 9, mostInt),
		"greatest acked, around":  window(5, 9, mostInt, leastInt, 7),
		"acked, nothing sent":     window(5, 5, 5),
		"acked, nothing sent yet": window(0, 0, 0),
		"acked next, nothing":     window(5, 5, 6),
		"acked, one sent":         window(5, 6, 6),
		"base acked, one sent":    window(5, 6, 5),
		"acked twice":             window(5, 9, 7, 7),
		"acked twice, at last":    window(5, 9, 6, 7, 8, 8),
		"acked, falling":          window(5, 9, 7, 6),
		"acked, falling at last":  window(5, 12, 6, 8, 7),
		"acked, falling first":    window(5, 12, 7, 6, 8),
		"acked too many":          {Base: 5, Next: 13, Acked: times(9, 7)},
		"acked far too many":      {Base: 5, Next: 13, Acked: times(100, 7)},
	} {
		wantNoWindow(t, name, w)
	}
}

// P68: windows whose numbers are just allowed.
func TestValidWindows(t *testing.T) {
	for _, w := range []impl.Window{
		{}, {Acked: []int{}}, window(0, 1), window(0, 8), window(5, 5), window(5, 6), window(5, 13), window(1000, 1000), window(1000, 1008),
		window(0, 2, 1), window(5, 9, 6), window(5, 9, 7), window(5, 9, 8), window(5, 9, 6, 8), window(5, 9, 6, 7, 8),
		window(0, 8, 1, 2, 3, 4, 5, 6, 7), window(1000, 1008, 1001, 1002, 1003, 1004, 1005, 1006, 1007), window(1000, 1008, 1007), window(999, 1001, 1000),
	} {
		if !impl.ValidWindow(w) {
			t.Errorf("%v is not valid", w)
		}
	}
}

// P68.
func TestWindowsCanBeEmpty(t *testing.T) {
	eachWindow(func(w impl.Window) {
		for _, acked := range [][]int{nil, {}} {
			if empty := (impl.Window{Base: w.Base, Next: w.Next, Acked: acked}); !impl.ValidWindow(w) || !impl.ValidWindow(empty) {
				t.Errorf("ValidWindow of %v = %t, and without acknowledged numbers %t", w, impl.ValidWindow(w), impl.ValidWindow(empty))
			}
		}
	})
}

// P68: all short lists of numbers near the window are held against the rules.
func TestWindowsAreValidByAllNumbers(t *testing.T) {
	for _, base := range []int{-1, 0, 5, 1000, 1001} {
		for next := base - 1; next <= base+9; next++ {
			lists := [][]int{nil}
			for from := 0; len(lists[from]) < 3; from++ {
				for n := base - 1; n <= next+1; n++ {
					lists = append(lists, join(lists[from], []int{n}))
				}
			}
			for _, acked := range lists {
				want := base >= 0 && base <= 1000 && next >= base && next-base <= 8
				for i, n := range acked {
					want = want && n > base && n < next && (i == 0 || acked[i-1] < n)
				}
				if w := window(base, next, acked...); impl.ValidWindow(w) != want {
					t.Errorf("ValidWindow of %v = %t", w, !want)
				}
			}
		}
	}
}

// P160.
func TestWindowsCanBeMoved(t *testing.T) {
	later := func(list []int) []int {
		list = slices.Clone(list)
		for i := range list {
			list[i]++
		}
		return list
	}
	eachWindow(func(w impl.Window) {
		moved := impl.Window{Base: w.Base + 1, Next: w.Next + 1, Acked: later(w.Acked)}
		if w.Base == impl.MaxClock {
			wantNoWindow(t, "1 later", moved)
			return
		}
		if !impl.ValidWindow(moved) || !slices.Equal(impl.OpenBatches(moved), later(impl.OpenBatches(w))) {
			t.Errorf("%v is 1 later than %v, and OpenBatches = %v", moved, w, impl.OpenBatches(moved))
		}
		if !slices.Equal(impl.LostBatches(moved, 2), later(impl.LostBatches(w, 2))) {
			t.Errorf("LostBatches of %v = %v, and of %v = %v", moved, impl.LostBatches(moved, 2), w, impl.LostBatches(w, 2))
		}
	})
}

// P69, P70: the next batch, written by hand.
func TestSendNextByHand(t *testing.T) {
	for _, c := range []struct {
		w, next impl.Window
		n       int
	}{
		{window(0, 0), window(0, 1), 0},
		{window(0, 7), window(0, 8), 7},
		{window(5, 5), window(5, 6), 5},
		{window(5, 6), window(5, 7), 6},
		{window(5, 9, 7), window(5, 10, 7), 9},
		{window(5, 12, 6, 11), window(5, 13, 6, 11), 12},
		{window(1000, 1000), window(1000, 1001), 1000},
		{window(1000, 1007, 1006), window(1000, 1008, 1006), 1007},
	} {
		if next, n, ok := impl.SendNext(c.w); !ok || n != c.n || !sameWindow(next, c.next) {
			t.Errorf("SendNext of %v = %v, %d, %t", c.w, next, n, ok)
		}
	}
	for _, w := range []impl.Window{window(0, 8), window(1, 9), window(0, 8, 1), window(0, 8, 7), window(5, 13, 6, 7, 8, 9, 10, 11, 12), window(1000, 1008)} {
		if next, n, ok := impl.SendNext(w); ok || n != -1 || !noWindow(next) {
			t.Errorf("SendNext of %v = %v, %d, %t", w, next, n, ok)
		}
	}
}

// P69, P70, P161.
func TestSentBatchesAreOpen(t *testing.T) {
	eachWindow(func(w impl.Window) {
		next, n, ok := impl.SendNext(w)
		if ok != (w.Next-w.Base != impl.MaxFlight) {
			t.Fatalf("SendNext of %v = %v, %d, %t", w, next, n, ok)
		}
		if !ok {
			if n != -1 || !noWindow(next) {
				t.Errorf("SendNext of %v = %v, %d", w, next, n)
			}
			return
		}
		if n != w.Next || !impl.ValidWindow(next) || !sameWindow(next, window(w.Base, w.Next+1, w.Acked...)) {
			t.Errorf("SendNext of %v = %v, %d", w, next, n)
		}
		open, before := impl.OpenBatches(next), impl.OpenBatches(w)
		if !slices.Equal(open, join(before, []int{n})) {
			t.Errorf("SendNext of %v: OpenBatches were %v, and are %v", w, before, open)
		}
		// Only the very last batch can not be acknowledged at once.
		gone, ok := impl.AckBatch(next, n)
		if ok != (w.Base < 1000 || w.Next > 1000) || ok && !slices.Equal(impl.OpenBatches(gone), before) {
			t.Errorf("AckBatch of %v, %d = %v, %t, and before it was sent: %v", next, n, gone, ok, w)
		}
	})
}

// P71, P72, P162: windows after acknowledgements, written by hand.
func TestAckBatchByHand(t *testing.T) {
	for name, c := range map[string]struct {
		w    impl.Window
		n    int
		next impl.Window
	}{
		"the only one":                  {window(0, 1), 0, window(1, 1)},
		"the first one":                 {window(5, 9), 5, window(6, 9)},
		"the second one":                {window(5, 9), 6, window(5, 9, 6)},
		"the last one":                  {window(5, 9), 8, window(5, 9, 8)},
		"one before others":             {window(5, 9, 7), 6, window(5, 9, 6, 7)},
		"one behind others":             {window(5, 9, 6), 7, window(5, 9, 6, 7)},
		"one between others":            {window(5, 9, 6, 8), 7, window(5, 9, 6, 7, 8)},
		"the first one before an open":  {window(5, 9, 7), 5, window(6, 9, 7)},
		"the first one before another":  {window(5, 9, 6), 5, window(7, 9)},
		"the first one before others":   {window(5, 9, 6, 7), 5, window(8, 9)},
		"the first one before two rows": {window(5, 12, 6, 7, 9, 11), 5, window(8, 12, 9, 11)},
		"all others are acknowledged":   {window(5, 9, 6, 7, 8), 5, window(9, 9)},
		"all of a full window":          {window(0, 8, 1, 2, 3, 4, 5, 6, 7), 0, window(8, 8)},
		"all but one":                   {window(0, 8, 1, 2, 3, 4, 5, 6), 0, window(7, 8)},
		"one before all":                {window(5, 9, 7), 4, window(5, 9, 7)},
		"one far before all":            {window(5, 9, 7), 0, window(5, 9, 7)},
		"one before all, nothing open":  {window(5, 5), 4, window(5, 5)},
		"0 of many":                     {window(1000, 1008, 1007), 0, window(1000, 1008, 1007)},
		"a second time":                 {window(5, 9, 7), 7, window(5, 9, 7)},
		"a second time, among others":   {window(5, 12, 6, 8, 11), 8, window(5, 12, 6, 8, 11)},
		"just not too far":              {window(999, 1001), 999, window(1000, 1001)},
		"just not too far, many":        {window(993, 1001, 994, 995, 996, 997, 998, 999), 993, window(1000, 1001)},
		"far, but not the first one":    {window(1000, 1008, 1002), 1001, window(1000, 1008, 1001, 1002)},
	} {
		if next, ok := impl.AckBatch(c.w, c.n); !ok || !sameWindow(next, c.next) {
			t.Errorf("%s: AckBatch of %v, %d = %v, %t, not %v", name, c.w, c.n, next, ok, c.next)
		}
	}
}

// P71, P72, P163: acknowledgements that fail.
func TestAckBatchFails(t *testing.T) {
	want := func(name string, w impl.Window, n int) {
		t.Helper()
		if next, ok := impl.AckBatch(w, n); ok || !noWindow(next) {
			t.Errorf("%s: AckBatch of %v, %d = %v, %t", name, w, n, next, ok)
		}
	}
	want("too far", window(1000, 1001), 1000)
	want("too far, nothing more open", window(1000, 1002, 1001), 1000)
	want("too far, full", window(1000, 1008), 1000)
	want("too far by the others", window(999, 1001, 1000), 999)
	want("too far by many others", window(993, 1001, 994, 995, 996, 997, 998, 999, 1000), 993)
	want("too far, but not at last", window(999, 1007, 1000, 1003), 999)
	eachWindow(func(w impl.Window) {
		for _, n := range []int{-1, -2, w.Next, w.Next + 1, w.Next + 8, w.Next + 64, leastInt, mostInt} {
			want("not sent", w, n)
		}
	})
}

// P71, P72, P162.
func TestAcknowledgedBatchesAreNotOpen(t *testing.T) {
	eachWindow(func(w impl.Window) {
		open := impl.OpenBatches(w)
		for _, n := range someBatches(w) {
			wanted, goes := ackByHand(w, n)
			next, ok := impl.AckBatch(w, n)
			if ok != goes {
				t.Fatalf("AckBatch of %v, %d = %v, %t", w, n, next, ok)
			}
			if !ok {
				if !noWindow(next) {
					t.Errorf("AckBatch of %v, %d = %v", w, n, next)
				}
				continue
			}
			if !sameWindow(next, wanted) || !impl.ValidWindow(next) {
				t.Errorf("AckBatch of %v, %d = %v, not %v", w, n, next, wanted)
			}
			others := slices.DeleteFunc(slices.Clone(open), func(m int) bool { return m == n })
			if !slices.Equal(impl.OpenBatches(next), others) {
				t.Errorf("AckBatch of %v, %d: OpenBatches = %v", w, n, impl.OpenBatches(next))
			}
			if again, ok := impl.AckBatch(next, n); !ok || !sameWindow(again, next) {
				t.Errorf("AckBatch of %v, %d = %v, and a second time %v, %t", w, n, next, again, ok)
			}
			if n == w.Base && next.Base != join(others, []int{w.Next})[0] {
				t.Errorf("AckBatch of %v, %d = %v", w, n, next)
			}
		}
	})
}

// P73.
func TestAcknowledgementsComeInAnyOrder(t *testing.T) {
	eachWindow(func(w impl.Window) {
		list := someBatches(w)
		for i, a := range list {
			for _, b := range list[:i] {
				one, ok := ackAll(w, a, b)
				other, also := ackAll(w, b, a)
				if ok != also || !sameWindow(one, other) {
					t.Errorf("AckBatch of %v, %d and %d = %v, %t, and in the other order %v, %t", w, a, b, one, ok, other, also)
				}
			}
		}
	})
}

// P73: all orders of a few acknowledgements, one of them twice.
func TestFourAcknowledgementsInAllOrders(t *testing.T) {
	for _, list := range [][]int{{5, 6, 8, 8}, {5, 5, 6, 7}, {5, 6, 7, 8}, {6, 7, 9, 9}, {4, 5, 7, 7}} {
		first, ok := ackAll(window(5, 10), list...)
		if !ok {
			t.Fatalf("AckBatch of %v fails", list)
		}
		for i := range 4 * 4 * 4 * 4 {
			places := []int{i % 4, i / 4 % 4, i / 16 % 4, i / 64}
			if slices.Equal(slices.Compact(slices.Sorted(slices.Values(places))), []int{0, 1, 2, 3}) {
				order := []int{list[places[0]], list[places[1]], list[places[2]], list[places[3]]}
				if w, ok := ackAll(window(5, 10), order...); !ok || !sameWindow(w, first) {
					t.Errorf("AckBatch of %v = %v, %t, and of %v = %v", order, w, ok, list, first)
				}
			}
		}
	}
}

// P163.
func TestAllCanBeAcknowledged(t *testing.T) {
	eachWindow(func(w impl.Window) {
		open := impl.OpenBatches(w)
		back := slices.Clone(open)
		slices.Reverse(back)
		for _, list := range [][]int{open, back, join(open, open), join(w.Acked, back, w.Acked)} {
			last, ok := ackAll(w, list...)
			if ok != (w.Next <= impl.MaxClock || len(list) == 0) {
				t.Errorf("AckBatch of %v, %v = %v, %t", w, list, last, ok)
			}
			if ok && (len(impl.OpenBatches(last)) != 0 || !sameWindow(last, window(w.Next, w.Next))) {
				t.Errorf("AckBatch of %v, %v = %v, and OpenBatches = %v", w, list, last, impl.OpenBatches(last))
			}
		}
	})
}

// P69, P163: a window goes from the first batch to the last one, with all
// batches acknowledged twice, and out of order.
func TestWindowGoesAllTheWay(t *testing.T) {
	w := window(0, 0)
	d := dice{state: 9}
	for steps := 0; w.Base < impl.MaxClock; steps++ {
		if steps > 100000 || !impl.ValidWindow(w) {
			t.Fatalf("the window is %v", w)
		}
		if next, n, ok := impl.SendNext(w); ok && w.Next < impl.MaxClock && d.roll(3) > 0 {
			if n != w.Next {
				t.Fatalf("SendNext of %v = %d", w, n)
			}
			w = next
			continue
		}
		open := impl.OpenBatches(w)
		if len(open) == 0 {
			continue
		}
		n := open[d.roll(len(open))]
		wanted, _ := ackByHand(w, n)
		next, ok := ackAll(w, n, n)
		if !ok || !sameWindow(next, wanted) {
			t.Fatalf("AckBatch of %v, %d twice = %v, %t", w, n, next, ok)
		}
		w = next
	}
	if !sameWindow(w, window(1000, 1000)) {
		t.Errorf("the window is %v at last", w)
	}
}

// P74: open batches, written by hand.
func TestOpenBatchesByHand(t *testing.T) {
	for _, c := range []struct {
		w    impl.Window
		want []int
	}{
		{window(0, 0), nil}, {window(5, 5), nil}, {window(1000, 1000), nil},
		{window(0, 1), []int{0}}, {window(5, 6), []int{5}}, {window(1000, 1001), []int{1000}},
		{window(5, 9, 7), []int{5, 6, 8}},
		{window(5, 9, 6, 7, 8), []int{5}},
		{window(5, 9, 6), []int{5, 7, 8}},
		{window(5, 9, 8), []int{5, 6, 7}},
		{window(0, 8), []int{0, 1, 2, 3, 4, 5, 6, 7}},
		{window(0, 8, 1, 2, 3, 4, 5, 6, 7), []int{0}},
		{window(1000, 1008, 1002, 1006), []int{1000, 1001, 1003, 1004, 1005, 1007}},
	} {
		if open := impl.OpenBatches(c.w); !slices.Equal(open, c.want) {
			t.Errorf("OpenBatches of %v = %v", c.w, open)
		}
	}
}

// P74.
func TestOpenBatchesWereSent(t *testing.T) {
	eachWindow(func(w impl.Window) {
		open := impl.OpenBatches(w)
		if !slices.Equal(open, openByHand(w)) || len(open) != w.Next-w.Base-len(w.Acked) {
			t.Errorf("OpenBatches of %v = %v", w, open)
		}
		if (len(open) == 0) != (w.Base == w.Next) || len(open) > 0 && open[0] != w.Base {
			t.Errorf("OpenBatches of %v = %v", w, open)
		}
		for _, n := range open {
			if n < w.Base || n >= w.Next || slices.Contains(w.Acked, n) {
				t.Errorf("OpenBatches of %v = %v", w, open)
			}
		}
	})
}

// P75, P76: lost batches, written by hand.
func TestLostBatchesByHand(t *testing.T) {
	for _, c := range []struct {
		w    impl.Window
		many int
		want []int
	}{
		{window(5, 5), 1, nil}, {window(5, 9), 1, nil}, {window(0, 8), 8, nil},
		{window(5, 7, 6), 1, []int{5}}, {window(5, 7, 6), 2, nil},
		{window(5, 9, 7), 1, []int{5, 6}}, {window(5, 9, 7), 2, nil},
		{window(5, 9, 8), 1, []int{5, 6, 7}}, {window(5, 9, 6), 1, []int{5}},
		{window(0, 8, 2, 4, 5), 1, []int{0, 1, 3}}, {window(0, 8, 2, 4, 5), 2, []int{0, 1, 3}},
		{window(0, 8, 2, 4, 5), 3, []int{0, 1}}, {window(0, 8, 2, 4, 5), 4, nil},
		{window(0, 8, 1, 3, 5, 7), 1, []int{0, 2, 4, 6}}, {window(0, 8, 1, 3, 5, 7), 2, []int{0, 2, 4}},
		{window(0, 8, 1, 3, 5, 7), 3, []int{0, 2}}, {window(0, 8, 1, 3, 5, 7), 4, []int{0}}, {window(0, 8, 1, 3, 5, 7), 5, nil},
		{window(0, 8, 1, 2, 3, 4, 5, 6, 7), 7, []int{0}}, {window(0, 8, 1, 2, 3, 4, 5, 6, 7), 8, nil},
		{window(1000, 1008, 1006, 1007), 2, []int{1000, 1001, 1002, 1003, 1004, 1005}},
	} {
		if lost := impl.LostBatches(c.w, c.many); !slices.Equal(lost, c.want) {
			t.Errorf("LostBatches of %v, %d = %v, not %v", c.w, c.many, lost, c.want)
		}
	}
}

// P75, P76, P164.
func TestLostBatchesAreOpen(t *testing.T) {
	eachWindow(func(w impl.Window) {
		open := impl.OpenBatches(w)
		for many := 1; many <= impl.MaxFlight; many++ {
			var want []int
			for _, n := range open {
				behind := slices.DeleteFunc(slices.Clone(w.Acked), func(m int) bool { return m < n })
				if len(behind) >= many {
					want = append(want, n)
				}
			}
			lost := impl.LostBatches(w, many)
			if !slices.Equal(lost, want) || !slices.Equal(lost, open[:len(lost)]) {
				t.Errorf("LostBatches of %v, %d = %v, not %v", w, many, lost, want)
			}
			if many < impl.MaxFlight {
				if fewer := impl.LostBatches(w, many+1); len(fewer) > len(lost) || !slices.Equal(fewer, lost[:len(fewer)]) {
					t.Errorf("LostBatches of %v, %d = %v, and with 1 more %v", w, many, lost, fewer)
				}
			}
			if len(lost) == 0 {
				continue
			}
			next, ok := impl.AckBatch(w, lost[0])
			if _, goes := ackByHand(w, lost[0]); ok != goes || slices.Contains(impl.LostBatches(next, many), lost[0]) {
				t.Errorf("LostBatches of %v, %d = %v, and after AckBatch of the first one %v", w, many, lost, impl.LostBatches(next, many))
			}
		}
		for _, many := range []int{0, -1, -8, 9, 10, 64, leastInt, mostInt} {
			if lost := impl.LostBatches(w, many); lost != nil {
				t.Errorf("LostBatches of %v, %d = %v", w, many, lost)
			}
		}
	})
}

func TestWindowsShareNoMemory(t *testing.T) {
	for _, acked := range [][]int{{}, {7}, {6, 7}, {6, 8, 10}} {
		w := impl.Window{Base: 5, Next: 12, Acked: spare(acked)}
		check := func(what string) {
			t.Helper()
			if w.Base != 5 || w.Next != 12 || !slices.Equal(w.Acked, acked) || !zeros(behind(w.Acked)) {
				t.Fatalf("%s changes its argument: %v", what, w)
			}
		}
		for range 2 {
			next, _, ok := impl.SendNext(w)
			if !ok || !sameWindow(next, window(5, 13, acked...)) {
				t.Errorf("SendNext of %v = %v", w, next)
			}
			overwrite(next.Acked, 77)
			check("SendNext")
			for n := range 12 {
				next, _ := impl.AckBatch(w, n)
				if want, _ := ackByHand(w, n); !sameWindow(next, want) {
					t.Errorf("AckBatch of %v, %d = %v", w, n, next)
				}
				overwrite(next.Acked, 77)
				check("AckBatch")
			}
			overwrite(impl.OpenBatches(w), 77)
			check("OpenBatches")
			overwrite(impl.LostBatches(w, 1), 77)
			check("LostBatches")
			if !slices.Equal(impl.OpenBatches(w), openByHand(w)) {
				t.Errorf("OpenBatches is kept: %v", impl.OpenBatches(w))
			}
		}
	}
}
