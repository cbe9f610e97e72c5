package tests

import (
	"slices"
	"testing"

	"loop.example/telemetryagent/impl"
)

// marks returns the marks of a health.
func marks(slowDown int, slowUp int, fullDown int, fullUp int) impl.Marks {
	return impl.Marks{SlowDown: slowDown, SlowUp: slowUp, FullDown: fullDown, FullUp: fullUp}
}

// validMarks has marks that are close, and far from each other, at the ends
// of what is allowed, and others.
func validMarks() []impl.Marks {
	list := []impl.Marks{
		marks(40, 60, 70, 90), marks(40, 60, 60, 90), marks(40, 41, 41, 42), marks(50, 51, 52, 53),
		marks(0, 1, 1, 2), marks(0, 1, 2, 3), marks(0, 1, 1, 101), marks(0, 1, 100, 101),
		marks(0, 100, 100, 101), marks(99, 100, 100, 101), marks(98, 99, 100, 101), marks(98, 99, 99, 100),
		marks(0, 50, 50, 101), marks(0, 50, 99, 100), marks(10, 20, 30, 101), marks(0, 1, 99, 101),
	}
	d := dice{state: 19}
	for range 60 {
		slowDown := d.roll(100)
		slowUp := slowDown + 1 + d.roll(100-slowDown)
		fullDown := slowUp + d.roll(101-slowUp)
		fullUp := fullDown + 1 + d.roll(101-fullDown)
		list = append(list, marks(slowDown, slowUp, fullDown, fullUp))
	}
	return list
}

// nearMarks returns the loads at the marks and beside them, the least one and
// the greatest one, each once.
func nearMarks(m impl.Marks) []int {
	list := []int{0, 1, 99, 100}
	for _, mark := range []int{m.SlowDown, m.SlowUp, m.FullDown, m.FullUp} {
		list = append(list, mark-1, mark, mark+1)
	}
	slices.Sort(list)
	isOther := func(load int) bool { return load < 0 || load > 100 }
	return slices.DeleteFunc(slices.Compact(list), isOther)
}

// healthByHand returns the next health: first how far it gets worse, and then
// how far it gets better.
func healthByHand(m impl.Marks, health int, load int) int {
	for health < 2 && load >= []int{m.SlowUp, m.FullUp}[health] {
		health++
	}
	for health > 0 && load < []int{m.SlowDown, m.FullDown}[health-1] {
		health--
	}
	return health
}

// pathByHand returns the health after each load, and how often it changes.
func pathByHand(m impl.Marks, loads []int) ([]int, int) {
	var path []int
	turns, health := 0, 0
	for _, load := range loads {
		next := healthByHand(m, health, load)
		if next != health {
			turns++
		}
		path = append(path, next)
		health = next
	}
	return path, turns
}

// eachPath calls a function with marks, and with loads of all lengths, many
// of them at the marks.
func eachPath(f func(m impl.Marks, loads []int)) {
	d := dice{state: 23}
	for _, m := range validMarks() {
		near := nearMarks(m)
		for i := range 130 {
			var loads []int
			for range i % 13 {
				if i%2 == 0 {
					loads = append(loads, near[d.roll(len(near))])
				} else {
					loads = append(loads, d.roll(101))
				}
			}
			f(m, loads)
		}
	}
}

// otherLoads has numbers that are no loads.
func otherLoads() []int {
	return []int{-1, -2, -100, 101, 102, 200, leastInt, mostInt}
}

// wantNoPath reports an error if a health follows loads by marks.
func wantNoPath(t *testing.T, what string, m impl.Marks, loads []int) {
	t.Helper()
	if path := impl.HealthPath(m, loads); path != nil {
		t.Errorf("%s: HealthPath of %v, %v = %v", what, m, loads, path)
	}
	if n := impl.CountTurns(m, loads); n != -1 {
		t.Errorf("%s: CountTurns of %v, %v = %d", what, m, loads, n)
	}
}

// wantNoMarks reports an error if marks are valid.
func wantNoMarks(t *testing.T, what string, m impl.Marks) {
	t.Helper()
	if impl.ValidMarks(m) {
		t.Errorf("%s: %v is valid", what, m)
	}
	for _, load := range []int{0, 1, 50, 99, 100, -1, 101, leastInt, mostInt} {
		for _, health := range []int{0, 1, 2, -1, 3, leastInt, mostInt} {
			if next := impl.NextHealth(m, health, load); next != -1 {
				t.Errorf("%s: NextHealth of %v, %d, %d = %d", what, m, health, load, next)
			}
		}
		wantNoPath(t, what, m, []int{load})
	}
	wantNoPath(t, what, m, nil)
	wantNoPath(t, what, m, []int{})
	wantNoPath(t, what, m, []int{0, 50, 100})
}

func TestInvalidMarks(t *testing.T) {
	for what, m := range map[string]impl.Marks{
		"nothing at all":              {},
		"slow down below":             marks(-1, 60, 70, 90),
		"slow down below, up at 0":    marks(-1, 0, 70, 90),
		"slow down as slow up":        marks(60, 60, 70, 90),
		"slow down above slow up":     marks(61, 60, 70, 90),
		"slow down above":             marks(100, 101, 101, 102),
		"slow down 100, up 100":       marks(100, 100, 100, 101),
		"slow up 0":                   marks(0, 0, 70, 90),
		"slow up above full down":     marks(40, 71, 70, 90),
		"slow up above full up":       marks(40, 91, 70, 90),
		"slow up above":               marks(40, 101, 101, 102),
		"full down 0":                 marks(40, 60, 0, 90),
		"full down below slow up":     marks(40, 60, 59, 90),
		"full down as full up":        marks(40, 60, 90, 90),
		"full down above full up":     marks(40, 60, 91, 90),
		"full down above":             marks(40, 60, 101, 102),
		"full down 101, up 101":       marks(40, 60, 101, 101),
		"full up 0":                   marks(40, 60, 70, 0),
		"full up above":               marks(40, 60, 70, 102),
		"full up far above":           marks(40, 60, 70, 200),
		"falling":                     marks(90, 70, 60, 40),
		"all equal":                   marks(50, 50, 50, 50),
		"least slow down":             marks(leastInt, 60, 70, 90),
		"greatest slow down":          marks(mostInt, 60, 70, 90),
		"greatest slow down, around":  marks(mostInt, leastInt, 70, 90),
		"least slow up":               marks(40, leastInt, 70, 90),
		"greatest slow up":            marks(40, mostInt, 70, 90),
		"least full down":             marks(40, 60, leastInt, 90),
		"greatest full down":          marks(40, 60, mostInt, 90),
		"greatest full down, around":  marks(40, 60, mostInt, leastInt),
		"least full up":               marks(40, 60, 70, leastInt),
		"greatest full up":            marks(40, 60, 70, mostInt),
		"all least":                   marks(leastInt, leastInt, leastInt, leastInt),
		"all greatest":                marks(mostInt, mostInt, mostInt, mostInt),
		"ascending, below":            marks(-4, -3, -2, -1),
		"ascending, above":            marks(200, 201, 202, 203),
		"ascending, the last above":   marks(99, 100, 101, 102),
		"ascending, from below to 99": marks(-1, 1, 50, 99),
	} {
		wantNoMarks(t, what, m)
	}
}

// P110: marks are valid by all of their numbers.
func TestValidMarks(t *testing.T) {
	numbers := []int{leastInt, -1, 0, 1, 2, 3, 49, 50, 51, 97, 98, 99, 100, 101, 102, 103, mostInt}
	for _, slowDown := range numbers {
		for _, slowUp := range numbers {
			for _, fullDown := range numbers {
				for _, fullUp := range numbers {
					m := marks(slowDown, slowUp, fullDown, fullUp)
					ascend := slowDown < slowUp && slowUp <= fullDown && fullDown < fullUp
					if want := ascend && slowDown >= 0 && fullDown <= 100 && fullUp <= 101; impl.ValidMarks(m) != want {
						t.Errorf("ValidMarks of %v = %t", m, !want)
					}
				}
			}
		}
	}
}

// P110.
func TestMarksCanBeClose(t *testing.T) {
	for _, m := range validMarks() {
		if !impl.ValidMarks(m) {
			t.Errorf("%v is not valid", m)
		}
		for what, other := range map[string]impl.Marks{
			"equal for slow":          marks(m.SlowUp, m.SlowUp, m.FullDown, m.FullUp),
			"equal for full":          marks(m.SlowDown, m.SlowUp, m.FullUp, m.FullUp),
			"falling for slow":        marks(m.SlowUp, m.SlowDown, m.FullDown, m.FullUp),
			"falling for full":        marks(m.SlowDown, m.SlowUp, m.FullUp, m.FullDown),
			"full down below slow up": marks(m.SlowDown, m.SlowUp, m.SlowUp-1, m.FullUp),
		} {
			wantNoMarks(t, what, other)
		}
	}
	for load := 1; load <= 100; load++ {
		if m := marks(load-1, load, load, load+1); !impl.ValidMarks(m) {
			t.Errorf("%v is not valid", m)
		}
	}
}

// P111, P113: the health after a load, written by hand.
func TestNextHealthByHand(t *testing.T) {
	usual, near := marks(40, 60, 70, 90), marks(40, 60, 60, 61)
	least, greatest := marks(0, 1, 1, 2), marks(0, 1, 100, 101)
	for _, c := range []struct {
		m    impl.Marks
		load int
		next [3]int
	}{
		{usual, 0, [3]int{0, 0, 0}}, {usual, 39, [3]int{0, 0, 0}}, {usual, 40, [3]int{0, 1, 1}},
		{usual, 59, [3]int{0, 1, 1}}, {usual, 60, [3]int{1, 1, 1}}, {usual, 69, [3]int{1, 1, 1}},
		{usual, 70, [3]int{1, 1, 2}}, {usual, 89, [3]int{1, 1, 2}}, {usual, 90, [3]int{2, 2, 2}},
		{usual, 100, [3]int{2, 2, 2}},
		{near, 39, [3]int{0, 0, 0}}, {near, 40, [3]int{0, 1, 1}}, {near, 59, [3]int{0, 1, 1}},
		{near, 60, [3]int{1, 1, 2}}, {near, 61, [3]int{2, 2, 2}},
		{least, 0, [3]int{0, 1, 1}}, {least, 1, [3]int{1, 1, 2}}, {least, 2, [3]int{2, 2, 2}},
		{least, 100, [3]int{2, 2, 2}},
		{greatest, 0, [3]int{0, 1, 1}}, {greatest, 1, [3]int{1, 1, 1}}, {greatest, 99, [3]int{1, 1, 1}},
		{greatest, 100, [3]int{1, 1, 2}},
	} {
		for health, want := range c.next {
			if next := impl.NextHealth(c.m, health, c.load); next != want {
				t.Errorf("NextHealth of %v, %d, %d = %d, not %d", c.m, health, c.load, next, want)
			}
		}
	}
}

// P111, P112: all loads.
func TestGreaterLoadsAreNoHealthier(t *testing.T) {
	for _, m := range validMarks() {
		before := [3]int{}
		for load := range 101 {
			worse := 0
			for health := range 3 {
				next := impl.NextHealth(m, health, load)
				if next != healthByHand(m, health, load) {
					t.Errorf("NextHealth of %v, %d, %d = %d", m, health, load, next)
				}
				if next < before[health] || next < worse {
					t.Errorf("NextHealth of %v, %d, %d = %d, and before %d, %d", m, health, load, next, before[health], worse)
				}
				if again := impl.NextHealth(m, next, load); again != next {
					t.Errorf("NextHealth of %v, %d, %d = %d, and then %d", m, health, load, next, again)
				}
				before[health], worse = next, next
			}
		}
	}
}

// P113, P174: between the marks, below and above them.
func TestBetweenTheMarksTheHealthStays(t *testing.T) {
	want := func(m impl.Marks, health int, load int, next int) {
		t.Helper()
		if n := impl.NextHealth(m, health, load); n != next {
			t.Errorf("NextHealth of %v, %d, %d = %d, not %d", m, health, load, n, next)
		}
	}
	for _, m := range validMarks() {
		for load := m.SlowDown; load < m.SlowUp; load++ {
			want(m, impl.HealthGood, load, impl.HealthGood)
			want(m, impl.HealthSlow, load, impl.HealthSlow)
		}
		for load := m.FullDown; load < m.FullUp; load++ {
			want(m, impl.HealthSlow, load, impl.HealthSlow)
			want(m, impl.HealthFull, load, impl.HealthFull)
		}
		for health := range 3 {
			for load := range m.SlowDown {
				want(m, health, load, impl.HealthGood)
			}
			for load := m.SlowUp; load < m.FullDown; load++ {
				want(m, health, load, impl.HealthSlow)
			}
			for load := m.FullUp; load <= 100; load++ {
				want(m, health, load, impl.HealthFull)
			}
		}
	}
}

func TestHealthOfOtherArguments(t *testing.T) {
	for _, m := range validMarks() {
		for _, other := range []int{-1, -2, 3, 4, 100, leastInt, mostInt} {
			for _, load := range join(otherLoads(), nearMarks(m)) {
				if next := impl.NextHealth(m, other, load); next != -1 {
					t.Errorf("NextHealth of %v, %d, %d = %d", m, other, load, next)
				}
			}
		}
		for _, load := range otherLoads() {
			for health := range 3 {
				if next := impl.NextHealth(m, health, load); next != -1 {
					t.Errorf("NextHealth of %v, %d, %d = %d", m, health, load, next)
				}
			}
		}
	}
}

// P114, P116, P174: the health after each load, written by hand.
func TestHealthPathByHand(t *testing.T) {
	usual := marks(40, 60, 70, 90)
	for what, c := range map[string]struct {
		m           impl.Marks
		loads, path []int
		turns       int
	}{
		"no loads":              {usual, nil, nil, 0},
		"one that is good":      {usual, []int{59}, []int{0}, 0},
		"one that is slow":      {usual, []int{60}, []int{1}, 1},
		"one that is full":      {usual, []int{90}, []int{2}, 1},
		"up and down":           {usual, []int{50, 60, 50, 39, 95, 70, 69, 40}, []int{0, 1, 1, 0, 2, 2, 1, 1}, 4},
		"step by step":          {usual, []int{0, 60, 90, 69, 39}, []int{0, 1, 2, 1, 0}, 4},
		"at once":               {usual, []int{100, 0, 100, 0}, []int{2, 0, 2, 0}, 4},
		"all different":         {usual, []int{60, 0, 60, 0, 60, 0, 60, 0, 60, 0, 60, 0}, []int{1, 0, 1, 0, 1, 0, 1, 0, 1, 0, 1, 0}, 12},
		"beside the marks":      {usual, []int{59, 40, 59, 40}, times(4, 0), 0},
		"slow for long":         {usual, []int{60, 40, 59, 40, 89, 70}, times(6, 1), 1},
		"full for long":         {usual, []int{90, 70, 89, 70, 100}, times(5, 2), 1},
		"from full to slow":     {usual, []int{90, 69, 70, 89, 40}, []int{2, 1, 1, 1, 1}, 2},
		"from full to good":     {usual, []int{90, 39, 59, 40}, []int{2, 0, 0, 0}, 2},
		"most loads, good":      {usual, times(12, 0), times(12, 0), 0},
		"most loads, slow":      {usual, times(12, 60), times(12, 1), 1},
		"most loads, full":      {usual, times(12, 100), times(12, 2), 1},
		"the last one turns":    {usual, join(times(11, 59), []int{60}), join(times(11, 0), []int{1}), 1},
		"the twelfth is better": {usual, join(times(11, 100), []int{0}), join(times(11, 2), []int{0}), 2},
		"never good again":      {marks(0, 1, 1, 2), []int{0, 1, 0, 2, 0, 0}, []int{0, 1, 1, 2, 1, 1}, 3},
		"never full":            {marks(0, 1, 100, 101), []int{0, 100, 99, 0, 100}, []int{0, 1, 1, 1, 1}, 1},
		"full at 100 alone":     {marks(98, 99, 99, 100), []int{99, 100, 99, 98, 97}, []int{1, 2, 2, 1, 0}, 4},
		"the greatest marks":    {marks(99, 100, 100, 101), []int{99, 100, 99, 98, 100}, []int{0, 1, 1, 0, 1}, 3},
	} {
		if path := impl.HealthPath(c.m, c.loads); !slices.Equal(path, c.path) {
			t.Errorf("%s: HealthPath of %v, %v = %v", what, c.m, c.loads, path)
		}
		if n := impl.CountTurns(c.m, c.loads); n != c.turns {
			t.Errorf("%s: CountTurns of %v, %v = %d", what, c.m, c.loads, n)
		}
	}
}

// P114, P115, P174.
func TestHealthGoesLoadByLoad(t *testing.T) {
	eachPath(func(m impl.Marks, loads []int) {
		want, _ := pathByHand(m, loads)
		path := impl.HealthPath(m, loads)
		if !slices.Equal(path, want) {
			t.Fatalf("HealthPath of %v, %v = %v, not %v", m, loads, path, want)
		}
		before := impl.HealthGood
		for i, load := range loads {
			if path[i] != impl.NextHealth(m, before, load) {
				t.Errorf("HealthPath of %v, %v = %v, and NextHealth at %d is another one", m, loads, path, i)
			}
			if fewer := impl.HealthPath(m, loads[:i]); !slices.Equal(fewer, path[:i]) {
				t.Errorf("HealthPath of %v, %v = %v, and of %d loads %v", m, loads, path, i, fewer)
			}
			before = path[i]
		}
		if len(loads) == 0 {
			return
		}
		last := loads[len(loads)-1]
		if last < m.SlowDown && before != impl.HealthGood || last >= m.FullUp && before != impl.HealthFull {
			t.Errorf("HealthPath of %v, %v = %v", m, loads, path)
		}
	})
}

// P116, P117.
func TestTurnsAreChanges(t *testing.T) {
	eachPath(func(m impl.Marks, loads []int) {
		_, want := pathByHand(m, loads)
		n := impl.CountTurns(m, loads)
		if n != want || n < 0 || n > len(loads) {
			t.Errorf("CountTurns of %v, %v = %d, not %d", m, loads, n, want)
		}
		if len(loads) > 0 {
			fewer := impl.CountTurns(m, loads[:len(loads)-1])
			if fewer != n && fewer != n-1 {
				t.Errorf("CountTurns of %v, %v = %d, and without the last one %d", m, loads, n, fewer)
			}
		}
		low := slices.Clone(loads)
		for i := range low {
			low[i] = min(low[i], m.SlowUp-1)
		}
		if n := impl.CountTurns(m, low); n != 0 {
			t.Errorf("CountTurns of %v, %v = %d", m, low, n)
		}
	})
}

func TestInvalidLoads(t *testing.T) {
	for _, m := range validMarks() {
		wantNoPath(t, "too many", m, times(13, 0))
		wantNoPath(t, "too many, full", m, times(13, 100))
		wantNoPath(t, "far too many", m, times(100, 50))
		for _, other := range otherLoads() {
			wantNoPath(t, "alone", m, []int{other})
			wantNoPath(t, "first", m, []int{other, 50, 100})
			wantNoPath(t, "within", m, []int{0, other, 100})
			wantNoPath(t, "last", m, []int{0, 50, other})
			wantNoPath(t, "twelfth", m, join(times(11, 50), []int{other}))
		}
	}
}

// P115, P116: no loads leave the health as it is, whatever memory they have.
func TestEmptyListsHaveNoLoads(t *testing.T) {
	for _, loads := range [][]int{nil, {}, spare([]int{}), []int{101, 100, -1}[:0], times(13, 100)[:0]} {
		for _, m := range validMarks() {
			if path := impl.HealthPath(m, loads); len(path) != 0 {
				t.Errorf("HealthPath of no loads = %v", path)
			}
			if n := impl.CountTurns(m, loads); n != 0 {
				t.Errorf("CountTurns of no loads = %d", n)
			}
		}
	}
}

func TestHealthSharesNoMemory(t *testing.T) {
	m := marks(40, 60, 70, 90)
	for range 2 {
		loads := spare([]int{50, 60, 50, 39, 95, 70, 69, 40})
		path := impl.HealthPath(m, loads)
		n := impl.CountTurns(m, loads)
		if n != 4 || !slices.Equal(path, []int{0, 1, 1, 0, 2, 2, 1, 1}) {
			t.Errorf("HealthPath or CountTurns is kept: %v, %d", path, n)
		}
		overwrite(path, 77)
		if !slices.Equal(loads, []int{50, 60, 50, 39, 95, 70, 69, 40}) || !zeros(behind(loads)) {
			t.Errorf("the argument is changed: %v", loads)
		}
	}
}

// P118: how much is used, written by hand.
func TestLoadsByHand(t *testing.T) {
	for _, c := range []struct {
		total      int
		kept, used []int
		load       int
	}{
		{0, times(3, 0), times(3, 0), 0},
		{1, times(3, 0), times(3, 0), 0},
		{1, times(3, 0), []int{0, 1, 0}, 100},
		{2, times(3, 0), []int{1, 0, 0}, 50},
		{3, times(3, 0), []int{1, 0, 0}, 34},
		{3, times(3, 0), []int{0, 1, 1}, 67},
		{3, times(3, 0), []int{1, 1, 1}, 100},
		{7, times(3, 0), []int{1, 2, 3}, 86},
		{30, times(3, 0), times(3, 0), 0},
		{30, times(3, 0), []int{0, 0, 22}, 74},
		{30, []int{8, 0, 0}, []int{0, 0, 22}, 74},
		{30, []int{8, 0, 0}, []int{1, 0, 22}, 77},
		{30, []int{8, 0, 0}, []int{8, 0, 22}, 100},
		{30, []int{30, 0, 0}, []int{3, 0, 0}, 10},
		{30, []int{10, 10, 10}, times(3, 0), 0},
		{100, times(3, 0), []int{1, 0, 0}, 1},
		{100, times(3, 0), []int{33, 33, 33}, 99},
		{199, times(3, 0), []int{0, 0, 1}, 1},
		{199, times(3, 0), []int{0, 0, 2}, 2},
		{199, times(3, 0), []int{99, 99, 0}, 100},
		{200, times(3, 0), times(3, 0), 0},
		{200, times(3, 0), []int{1, 0, 0}, 1},
		{200, times(3, 0), []int{1, 1, 0}, 1},
		{200, times(3, 0), []int{1, 1, 1}, 2},
		{200, times(3, 0), []int{0, 198, 0}, 99},
		{200, times(3, 0), []int{0, 199, 0}, 100},
		{200, times(3, 0), []int{0, 0, 200}, 100},
	} {
		b := impl.Budget{Total: c.total, Kept: c.kept, Used: c.used}
		if n := impl.LoadOf(b); n != c.load {
			t.Errorf("LoadOf %v = %d, not %d", b, n, c.load)
		}
	}
}

// P118.
func TestLoadsAreParts(t *testing.T) {
	for _, b := range validBudgets() {
		used, n := addUp(b.Used), impl.LoadOf(b)
		least := 0
		for least*b.Total < 100*used {
			least++
		}
		if n != least || n < 0 || n > 100 || (n == 0) != (used == 0) || used == b.Total && b.Total > 0 && n != 100 {
			t.Errorf("LoadOf %v = %d, not %d", b, n, least)
		}
	}
	for total := range impl.MaxTotal + 1 {
		for used := range total + 1 {
			b := impl.Budget{Total: total, Kept: times(3, 0), Used: []int{used / 2, 0, used - used/2}}
			n := impl.LoadOf(b)
			if n*total < 100*used || used > 0 && (n-1)*total >= 100*used || used == 0 && n != 0 {
				t.Errorf("LoadOf %v = %d", b, n)
			}
		}
	}
}

// P119.
func TestTakingLoads(t *testing.T) {
	for _, b := range validBudgets() {
		before := impl.LoadOf(b)
		for class, room := range rooms(b) {
			for _, size := range []int{0, room / 3, room / 2, room} {
				c, ok := impl.TakeCredit(b, class, size)
				if n := impl.LoadOf(c); !ok || n < before || size == 0 && n != before {
					t.Errorf("LoadOf %v = %d, and before TakeCredit of %d by %d %d", c, n, size, class, before)
				}
			}
		}
	}
}

func TestLoadsOfInvalidBudgets(t *testing.T) {
	for name, b := range invalidBudgets() {
		if n := impl.LoadOf(b); n != -1 {
			t.Errorf("%s: LoadOf %v = %d", name, b, n)
		}
	}
	b := impl.Budget{Total: 30, Kept: spare([]int{8, 0, 0}), Used: spare([]int{1, 2, 3})}
	if n := impl.LoadOf(b); n != 20 {
		t.Errorf("LoadOf %v = %d", b, n)
	}
	if !sameBudget(b, impl.Budget{Total: 30, Kept: []int{8, 0, 0}, Used: []int{1, 2, 3}}) || !zeros(behind(b.Kept)) || !zeros(behind(b.Used)) {
		t.Errorf("the argument is changed: %v", b)
	}
}
