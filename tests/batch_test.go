package tests

import (
	"slices"
	"testing"

	"loop.example/telemetryagent/impl"
)

// addUp returns the sum of numbers.
func addUp(list []int) int {
	sum := 0
	for _, n := range list {
		sum += n
	}
	return sum
}

// sizeLists has no sizes, all single ones, all short orders of some, and
// longer lists up to as many as there may be.
func sizeLists() [][]int {
	lists := [][]int{nil}
	for from := 0; len(lists[from]) < 4; from++ {
		for _, size := range []int{1, 9, 10, 11, 20} {
			lists = append(lists, join(lists[from], []int{size}))
		}
	}
	for size := range impl.MaxSize {
		lists = append(lists, []int{size + 1}, times(impl.MaxItems, size+1))
	}
	d := dice{state: 7}
	for i := range 300 {
		var sizes []int
		for range 5 + i%8 {
			sizes = append(sizes, 1+d.roll([]int{3, 12, 20}[i%3]))
		}
		lists = append(lists, sizes)
	}
	return lists
}

// eachCut calls a function with all lists of sizes, and with what batches may
// have at most.
func eachCut(f func(sizes []int, bytes int, many int)) {
	for _, sizes := range sizeLists() {
		for _, bytes := range []int{20, 21, 29, 30, 40, 59, 100, 199, 200} {
			for _, many := range []int{1, 2, 3, 5, 11, 12} {
				f(sizes, bytes, many)
			}
		}
	}
}

// cutByHand returns the sizes in each batch: first as many as a batch may
// have, and then fewer, until they fit.
func cutByHand(sizes []int, bytes int, many int) [][]int {
	var batches [][]int
	for len(sizes) > 0 {
		n := min(len(sizes), many)
		for addUp(sizes[:n]) > bytes {
			n--
		}
		batches = append(batches, sizes[:n])
		sizes = sizes[n:]
	}
	return batches
}

// wantNoCut reports an error if there are batches for arguments that are not
// valid.
func wantNoCut(t *testing.T, what string, sizes []int, bytes int, many int) {
	t.Helper()
	if list := impl.CutBatches(sizes, bytes, many); list != nil {
		t.Errorf("%s: CutBatches of %v by %d, %d = %v", what, sizes, bytes, many, list)
	}
	if list := impl.BatchBytes(sizes, bytes, many); list != nil {
		t.Errorf("%s: BatchBytes of %v by %d, %d = %v", what, sizes, bytes, many, list)
	}
	if n := impl.FillOf(sizes, bytes, many); n != -1 {
		t.Errorf("%s: FillOf %v by %d, %d = %d", what, sizes, bytes, many, n)
	}
}

func TestInvalidCuts(t *testing.T) {
	for name, sizes := range map[string][]int{
		"too many":          times(13, 1),
		"far too many":      times(100, 20),
		"too many, no size": times(13, 0),
		"size 0":            {0},
		"size 0, first":     {0, 5, 5},
		"size 0, last":      {5, 5, 0},
		"size 0, twelfth":   join(times(11, 5), []int{0}),
		"size below":        {5, -1, 5},
		"size above":        {5, 21, 5},
		"size above, first": {21, 5},
		"size above, last":  {5, 5, 21},
		"least size":        {leastInt},
		"greatest size":     {mostInt},
		"sizes around":      {mostInt, mostInt, 2},
	} {
		for _, bytes := range []int{20, 21, 200, 19} {
			for _, many := range []int{1, 5, 12, 0} {
				wantNoCut(t, name, sizes, bytes, many)
			}
		}
	}
	for _, sizes := range [][]int{nil, {1}, {20}, {19, 1, 1}, times(12, 1), times(12, 20)} {
		for _, bytes := range []int{19, 0, -1, 201, 400, leastInt, mostInt} {
			wantNoCut(t, "bytes", sizes, bytes, 1)
			wantNoCut(t, "bytes", sizes, bytes, 12)
			wantNoCut(t, "bytes", sizes, bytes, 13)
		}
		for _, many := range []int{0, -1, 13, 200, leastInt, mostInt} {
			wantNoCut(t, "many", sizes, 20, many)
			wantNoCut(t, "many", sizes, 200, many)
		}
	}
}

// P53, P54, P56, P60: batches and how full they are, written by hand.
func TestBatchesByHand(t *testing.T) {
	for name, c := range map[string]struct {
		sizes        []int
		bytes, many  int
		counts, sums []int
		fill         int
	}{
		"no sizes":                     {nil, 20, 1, nil, nil, 100},
		"no sizes for large batches":   {nil, 200, 12, nil, nil, 100},
		"the least item":               {[]int{1}, 20, 1, []int{1}, []int{1}, 5},
		"the least fill":               {[]int{1}, 200, 12, []int{1}, []int{1}, 0},
		"the greatest item":            {[]int{20}, 20, 1, []int{1}, []int{20}, 100},
		"just fit":                     {[]int{12, 8}, 20, 12, []int{2}, []int{20}, 100},
		"just fit, and one more":       {[]int{12, 8, 1}, 20, 12, []int{2, 1}, []int{20, 1}, 52},
		"1 too large":                  {[]int{12, 9}, 20, 12, []int{1, 1}, []int{12, 9}, 52},
		"1 more for the bytes":         {[]int{12, 9}, 21, 12, []int{2}, []int{21}, 100},
		"smaller ones do not overtake": {[]int{15, 10, 5, 1}, 20, 12, []int{1, 3}, []int{15, 16}, 77},
		"the first batch is full":      {[]int{10, 10, 10}, 20, 12, []int{2, 1}, []int{20, 10}, 75},
		"all batches are full":         {[]int{10, 10, 20, 5, 15}, 20, 12, []int{2, 1, 2}, []int{20, 20, 20}, 100},
		"as many as allowed":           {[]int{1, 1, 1}, 20, 3, []int{3}, []int{3}, 15},
		"1 more than allowed":          {[]int{1, 1, 1, 1}, 20, 3, []int{3, 1}, []int{3, 1}, 10},
		"full by both":                 {[]int{10, 10, 10, 10}, 20, 2, []int{2, 2}, []int{20, 20}, 100},
		"full by the one, the other":   {[]int{1, 1, 20, 1, 1, 1}, 20, 2, []int{2, 1, 2, 1}, []int{2, 20, 2, 1}, 31},
		"all items in one batch":       {times(12, 16), 200, 12, []int{12}, []int{192}, 96},
		"all items in one, rounded":    {join(times(11, 16), []int{15}), 200, 12, []int{12}, []int{191}, 95},
		"1 item less for each batch":   {times(12, 16), 200, 11, []int{11, 1}, []int{176, 16}, 48},
		"the greatest sum":             {times(12, 20), 200, 12, []int{10, 2}, []int{200, 40}, 60},
		"1 below the greatest sum":     {times(12, 20), 199, 12, []int{9, 3}, []int{180, 60}, 60},
		"nearly full":                  {join(times(9, 20), []int{19}), 200, 12, []int{10}, []int{199}, 99},
		"one for each batch":           {[]int{3, 20, 1}, 200, 1, []int{1, 1, 1}, []int{3, 20, 1}, 4},
		"the last one alone":           {[]int{7, 7, 7}, 20, 12, []int{2, 1}, []int{14, 7}, 52},
		"the last one fits":            {[]int{7, 7, 6}, 20, 12, []int{3}, []int{20}, 100},
	} {
		if list := impl.CutBatches(c.sizes, c.bytes, c.many); !slices.Equal(list, c.counts) {
			t.Errorf("%s: CutBatches = %v", name, list)
		}
		if list := impl.BatchBytes(c.sizes, c.bytes, c.many); !slices.Equal(list, c.sums) {
			t.Errorf("%s: BatchBytes = %v", name, list)
		}
		if n := impl.FillOf(c.sizes, c.bytes, c.many); n != c.fill {
			t.Errorf("%s: FillOf = %d", name, n)
		}
	}
}

// P53, P54, P56.
func TestBatchesHaveAllItems(t *testing.T) {
	eachCut(func(sizes []int, bytes int, many int) {
		var wantCounts, wantSums []int
		for _, batch := range cutByHand(sizes, bytes, many) {
			wantCounts = append(wantCounts, len(batch))
			wantSums = append(wantSums, addUp(batch))
		}
		counts, sums := impl.CutBatches(sizes, bytes, many), impl.BatchBytes(sizes, bytes, many)
		if !slices.Equal(counts, wantCounts) || !slices.Equal(sums, wantSums) {
			t.Fatalf("%v by %d, %d: CutBatches = %v, BatchBytes = %v", sizes, bytes, many, counts, sums)
		}
		if addUp(counts) != len(sizes) || addUp(sums) != addUp(sizes) {
			t.Errorf("%v by %d, %d: CutBatches = %v, BatchBytes = %v", sizes, bytes, many, counts, sums)
		}
		next := 0
		for i, n := range counts {
			next += n
			if n < 1 || n > many || sums[i] > bytes || next < len(sizes) && n < many && sums[i]+sizes[next] <= bytes {
				t.Errorf("%v by %d, %d: CutBatches = %v, BatchBytes = %v", sizes, bytes, many, counts, sums)
			}
		}
	})
}

// P55.
func TestLargerBatchesAreNoMore(t *testing.T) {
	for _, sizes := range sizeLists() {
		for many := 1; many <= impl.MaxItems; many++ {
			for bytes := impl.MaxSize; bytes < impl.MaxTotal; bytes += 1 + bytes/40 {
				fewer, more := impl.CutBatches(sizes, bytes+1, many), impl.CutBatches(sizes, bytes, many)
				if len(fewer) > len(more) || addUp(fewer) != len(sizes) {
					t.Errorf("CutBatches of %v by %d, %d = %v, and by 1 more %v", sizes, bytes, many, more, fewer)
				}
			}
		}
	}
}

// P57.
func TestTwoBatchesDoNotFitIntoOne(t *testing.T) {
	pairs := 0
	eachCut(func(sizes []int, bytes int, many int) {
		counts, sums := impl.CutBatches(sizes, bytes, many), impl.BatchBytes(sizes, bytes, many)
		for i := 1; i < len(counts); i++ {
			pairs++
			if sums[i-1]+sums[i] <= bytes && counts[i-1]+counts[i] <= many {
				t.Errorf("%v by %d, %d: CutBatches = %v, BatchBytes = %v", sizes, bytes, many, counts, sums)
			}
		}
	})
	if pairs < 1000 {
		t.Errorf("there are %d batches behind another one", pairs)
	}
}

// P60, P157.
func TestBatchesAreNotTooFull(t *testing.T) {
	eachCut(func(sizes []int, bytes int, many int) {
		sums := impl.BatchBytes(sizes, bytes, many)
		isFull := !slices.ContainsFunc(sums, func(n int) bool { return n != bytes })
		fill := impl.FillOf(sizes, bytes, many)
		if fill < 0 || fill > 100 || (fill == 100) != isFull {
			t.Errorf("FillOf %v by %d, %d = %d, and BatchBytes = %v", sizes, bytes, many, fill, sums)
		}
		// Rounded down: this is at most what the batches have, 1 more is not.
		has, most := 100*addUp(sizes), len(sums)*bytes
		if len(sizes) > 0 && (fill*most > has || (fill+1)*most <= has) {
			t.Errorf("FillOf %v by %d, %d = %d, and BatchBytes = %v", sizes, bytes, many, fill, sums)
		}
	})
	for size := 1; size <= impl.MaxSize; size++ {
		for bytes := impl.MaxSize; bytes <= impl.MaxTotal; bytes++ {
			for _, many := range []int{1, 12} {
				if n := impl.FillOf([]int{size}, bytes, many); n != 100*size/bytes {
					t.Errorf("FillOf one item of %d by %d, %d = %d", size, bytes, many, n)
				}
			}
		}
	}
}

// P154, P155.
func TestBatchesOfOneItem(t *testing.T) {
	for _, sizes := range sizeLists() {
		for _, bytes := range []int{20, 21, 100, 200} {
			if list := impl.CutBatches(sizes, bytes, 1); !slices.Equal(list, times(len(sizes), 1)) {
				t.Errorf("CutBatches of %v by %d, 1 = %v", sizes, bytes, list)
			}
			if list := impl.BatchBytes(sizes, bytes, 1); !slices.Equal(list, sizes) {
				t.Errorf("BatchBytes of %v by %d, 1 = %v", sizes, bytes, list)
			}
		}
	}
}

// timeLists has no times, all short orders of steps, and longer lists up to
// as many as there may be, some of them up to the last time.
func timeLists() [][]int {
	lists := [][]int{nil}
	for from := 0; len(lists[from]) < 4; from++ {
		last := 3
		if n := len(lists[from]); n > 0 {
			last = lists[from][n-1]
		}
		for _, step := range []int{0, 1, 2, 5} {
			lists = append(lists, join(lists[from], []int{last + step}))
		}
	}
	d := dice{state: 8}
	for i := range 300 {
		list := []int{d.roll([]int{1, 200, 600}[i%3])}
		for range 3 + i%9 {
			next := list[len(list)-1] + d.roll([]int{2, 4, 12, 101}[i%4])
			list = append(list, min(next, impl.MaxClock))
		}
		lists = append(lists, list)
	}
	return append(lists, times(12, 0), times(12, 1000), []int{0}, []int{1000}, []int{0, 1000},
		[]int{899, 900, 999, 1000}, []int{0, 100, 200, 300}, []int{0, 99, 100, 101, 200, 201, 202})
}

// eachFlush calls a function with all lists of times, and with how long
// batches wait and how many items they have at most.
func eachFlush(f func(list []int, age int, many int)) {
	for _, list := range timeLists() {
		for _, age := range []int{0, 1, 2, 3, 7, 10, 50, 99, 100} {
			for _, many := range []int{1, 2, 3, 4, 11, 12} {
				f(list, age, many)
			}
		}
	}
}

// flushByHand lets time pass: at each time the items that come then are put
// into a batch, one by one, and then a batch that is old enough is sent.
func flushByHand(list []int, age int, many int) []int {
	var sent []int
	open, first := 0, 0
	for now := 0; now <= impl.MaxClock+impl.MaxAge; now++ {
		for len(list) > 0 && list[0] == now {
			if open == 0 {
				first = now
			}
			open++
			if open == many {
				sent = append(sent, now)
				open = 0
			}
			list = list[1:]
		}
		if open > 0 && now-first == age {
			sent = append(sent, now)
			open = 0
		}
	}
	return sent
}

func TestInvalidTimes(t *testing.T) {
	for name, list := range map[string][]int{
		"too many":           times(13, 5),
		"far too many":       times(200, 5),
		"time below":         {-1},
		"time below, first":  {-1, 5, 6},
		"time above":         {1001},
		"time above, last":   {5, 6, 1001},
		"least time":         {leastInt, 0},
		"greatest time":      {0, mostInt},
		"fall":               {5, 4},
		"fall at the end":    {0, 5, 5, 4},
		"fall at the start":  {6, 5, 5, 9},
		"fall, within a row": {1, 2, 4, 3, 5},
		"fall, twelfth":      join(times(11, 7), []int{6}),
	} {
		for _, age := range []int{0, 10, 100, -1} {
			for _, many := range []int{1, 2, 12, 0} {
				if sent := impl.FlushTimes(list, age, many); sent != nil {
					t.Errorf("%s: FlushTimes of %v by %d, %d = %v", name, list, age, many, sent)
				}
			}
		}
	}
	for _, list := range [][]int{nil, {0}, {1000}, {1, 1, 2}, times(12, 5)} {
		for _, age := range []int{-1, 101, 1000, leastInt, mostInt} {
			for _, many := range []int{1, 12, 13} {
				if sent := impl.FlushTimes(list, age, many); sent != nil {
					t.Errorf("FlushTimes of %v by the age %d, %d = %v", list, age, many, sent)
				}
			}
		}
		for _, many := range []int{0, -1, 13, 100, leastInt, mostInt} {
			for _, age := range []int{0, 10, 100} {
				if sent := impl.FlushTimes(list, age, many); sent != nil {
					t.Errorf("FlushTimes of %v by %d, many %d = %v", list, age, many, sent)
				}
			}
		}
	}
}

// P58: when batches are sent, written by hand.
func TestFlushTimesByHand(t *testing.T) {
	for name, c := range map[string]struct {
		list      []int
		age, many int
		want      []int
	}{
		"no items":                        {nil, 10, 12, nil},
		"one item waits for others":       {[]int{7}, 10, 12, []int{17}},
		"one item alone":                  {[]int{7}, 10, 1, []int{7}},
		"just before the last moment":     {[]int{0, 9}, 10, 12, []int{10}},
		"at the last moment":              {[]int{0, 10}, 10, 12, []int{10}},
		"just behind the last moment":     {[]int{0, 11}, 10, 12, []int{10, 21}},
		"two at the last moment":          {[]int{0, 10, 10}, 10, 12, []int{10}},
		"full at the last moment":         {[]int{0, 10, 10}, 10, 2, []int{10, 20}},
		"full and more, same moment":      {[]int{0, 10, 10, 10}, 10, 2, []int{10, 10}},
		"full and more, last moment":      {[]int{0, 10, 10, 10}, 10, 3, []int{10, 20}},
		"full before the last moment":     {[]int{0, 4, 5, 10}, 10, 3, []int{5, 20}},
		"next one behind a full batch":    {[]int{0, 4, 5, 15, 16}, 10, 2, []int{4, 15, 26}},
		"one less than full":              {[]int{0, 4, 5}, 10, 4, []int{10}},
		"age from the first, not last":    {[]int{0, 8, 16}, 10, 12, []int{10, 26}},
		"age from the first that left":    {[]int{0, 1, 2, 11, 12}, 10, 2, []int{1, 11, 22}},
		"no age":                          {[]int{3, 4, 5}, 0, 12, []int{3, 4, 5}},
		"no age, same moment":             {[]int{3, 3, 4, 5, 5, 5}, 0, 12, []int{3, 4, 5}},
		"no age, same moment, full":       {[]int{5, 5, 5, 5, 5}, 0, 2, []int{5, 5, 5}},
		"no age, many at the same":        {times(12, 9), 0, 12, []int{9}},
		"all at the same moment":          {times(12, 9), 100, 12, []int{9}},
		"all but one at the same":         {times(11, 9), 100, 12, []int{109}},
		"one more than full at the same":  {times(12, 9), 100, 11, []int{9, 109}},
		"batches of one":                  {[]int{3, 3, 4, 900}, 100, 1, []int{3, 3, 4, 900}},
		"the greatest age":                {[]int{0, 100}, 100, 12, []int{100}},
		"1 more than the greatest age":    {[]int{0, 101}, 100, 12, []int{100, 201}},
		"the last time":                   {[]int{1000}, 100, 12, []int{1100}},
		"the last time, too":              {[]int{900, 1000}, 100, 12, []int{1000}},
		"the first and the last time":     {[]int{0, 1000}, 100, 12, []int{100, 1100}},
		"the last times, full":            {[]int{899, 1000, 1000}, 100, 2, []int{999, 1000}},
		"sent for its age, and then full": {[]int{0, 11, 12, 13}, 10, 3, []int{10, 13}},
	} {
		if sent := impl.FlushTimes(c.list, c.age, c.many); !slices.Equal(sent, c.want) {
			t.Errorf("%s: FlushTimes of %v by %d, %d = %v, not %v", name, c.list, c.age, c.many, sent, c.want)
		}
	}
}

// P58.
func TestBatchesAreSentInTime(t *testing.T) {
	eachFlush(func(list []int, age int, many int) {
		sent := impl.FlushTimes(list, age, many)
		if !slices.Equal(sent, flushByHand(list, age, many)) {
			t.Errorf("FlushTimes of %v by %d, %d = %v, not %v", list, age, many, sent, flushByHand(list, age, many))
		}
		if !slices.IsSorted(sent) || len(sent) > len(list) {
			t.Errorf("FlushTimes of %v by %d, %d = %v", list, age, many, sent)
		}
	})
}

// P59.
func TestBatchesOfOneAreSentAtOnce(t *testing.T) {
	for _, list := range timeLists() {
		for _, age := range []int{0, 1, 50, 99, 100} {
			if sent := impl.FlushTimes(list, age, 1); !slices.Equal(sent, list) {
				t.Errorf("FlushTimes of %v by %d, 1 = %v", list, age, sent)
			}
		}
	}
}

// P156.
func TestLaterItemsAreSentLater(t *testing.T) {
	later := func(list []int) []int {
		list = slices.Clone(list)
		for i := range list {
			list[i]++
		}
		return list
	}
	eachFlush(func(list []int, age int, many int) {
		if len(list) > 0 && list[len(list)-1] == impl.MaxClock {
			return
		}
		sent, next := impl.FlushTimes(list, age, many), impl.FlushTimes(later(list), age, many)
		if !slices.Equal(next, later(sent)) {
			t.Errorf("FlushTimes of %v by %d, %d = %v, and 1 later %v", list, age, many, sent, next)
		}
	})
}

// P53, P58, P60: a slice without elements is the same as none, whatever memory
// it has.
func TestEmptyListsHaveNoBatches(t *testing.T) {
	for _, list := range [][]int{nil, {}, spare([]int{}), []int{5, 6}[:0]} {
		for _, many := range []int{1, 12} {
			if counts := impl.CutBatches(list, 20, many); len(counts) != 0 {
				t.Errorf("CutBatches without sizes = %v", counts)
			}
			if sums := impl.BatchBytes(list, 20, many); len(sums) != 0 {
				t.Errorf("BatchBytes without sizes = %v", sums)
			}
			if n := impl.FillOf(list, 20, many); n != 100 {
				t.Errorf("FillOf without sizes = %d", n)
			}
			if sent := impl.FlushTimes(list, 10, many); len(sent) != 0 {
				t.Errorf("FlushTimes without times = %v", sent)
			}
		}
		wantNoCut(t, "no sizes", list, 19, 1)
		wantNoCut(t, "no sizes", list, 20, 0)
	}
}

func TestBatchesShareNoMemory(t *testing.T) {
	for _, many := range []int{1, 2, 3, 12} {
		sizes, list := spare([]int{5, 9, 11, 20}), spare([]int{5, 9, 11, 20})
		for range 2 {
			var want []int
			for _, batch := range cutByHand([]int{5, 9, 11, 20}, 25, many) {
				want = append(want, addUp(batch))
			}
			sums := impl.BatchBytes(sizes, 25, many)
			sent := impl.FlushTimes(list, 6, many)
			if !slices.Equal(sums, want) || !slices.Equal(sent, flushByHand([]int{5, 9, 11, 20}, 6, many)) {
				t.Errorf("a result is kept: %v, %v", sums, sent)
			}
			overwrite(sums, 77)
			overwrite(sent, 77)
			overwrite(impl.CutBatches(sizes, 25, many), 77)
			impl.FillOf(sizes, 25, many)
			for _, argument := range [][]int{sizes, list} {
				if !slices.Equal(argument, []int{5, 9, 11, 20}) || !zeros(behind(argument)) {
					t.Fatalf("an argument is changed: %v", argument)
				}
			}
		}
	}
}
