package tests

import (
	"slices"
	"strings"
	"testing"

	"loop.example/telemetryagent/impl"
)

// fatesOf returns fates by their letters: A arrives, L is lost, M is mute, and
// T arrives twice.
func fatesOf(text string) []int {
	var fates []int
	for i := range text {
		fates = append(fates, strings.IndexByte("ALMT", text[i]))
	}
	return fates
}

// fateLists has all short lists of fates, and longer lists up to as many as
// there may be, most of them with more fates after which a batch is open.
func fateLists() [][]int {
	lists := [][]int{nil}
	for from := 0; len(lists[from]) < 5; from++ {
		for _, fate := range fatesOf("ALMT") {
			lists = append(lists, join(lists[from], []int{fate}))
		}
	}
	d := dice{state: 10}
	for i := range 400 {
		var fates []int
		for range 6 + i%15 {
			kinds := fatesOf([]string{"ALMT", "LLLMMAT", "LM", "LLLLA", "MMMT"}[i%5])
			fates = append(fates, kinds[d.roll(len(kinds))])
		}
		lists = append(lists, fates)
	}
	for _, fate := range fatesOf("ALMT") {
		lists = append(lists, times(19, fate), times(20, fate))
	}
	return lists
}

// eachLink calls a function with all lists of fates, and with all numbers of
// batches.
func eachLink(f func(fates []int, many int)) {
	for _, fates := range fateLists() {
		for many := range impl.MaxFlight + 1 {
			f(fates, many)
		}
	}
}

// linkByHand sends batches in rounds, and returns those that arrive, how many
// fates are used, and which batches are open at last.
func linkByHand(fates []int, many int) ([]int, int, []int) {
	var arrived []int
	acked := make([]bool, many)
	open := func() []int {
		var list []int
		for n := range many {
			if !acked[n] {
				list = append(list, n)
			}
		}
		return list
	}
	sends := 0
	for sends < len(fates) && len(open()) > 0 {
		for _, n := range open() {
			if sends == len(fates) {
				break
			}
			fate := fates[sends]
			sends++
			if fate != impl.FateLost {
				arrived = append(arrived, n)
			}
			if fate == impl.FateTwice {
				arrived = append(arrived, n)
			}
			acked[n] = fate == impl.FateArrives || fate == impl.FateTwice
		}
	}
	return arrived, sends, open()
}

// firsts returns numbers, each where it is first.
func firsts(list []int) []int {
	var found []int
	for i, n := range list {
		if slices.Index(list, n) == i {
			found = append(found, n)
		}
	}
	return found
}

// upTo returns the numbers from 0 on.
func upTo(many int) []int {
	var list []int
	for n := range many {
		list = append(list, n)
	}
	return list
}

// startsWith reports whether a list begins with another one.
func startsWith(list []int, start []int) bool {
	return len(start) <= len(list) && slices.Equal(list[:len(start)], start)
}

// wantNoLink reports an error if something is sent for arguments that are not
// valid.
func wantNoLink(t *testing.T, name string, fates []int, many int) {
	t.Helper()
	if list := impl.ArrivedOver(fates, many); list != nil {
		t.Errorf("%s: ArrivedOver %v, %d = %v", name, fates, many, list)
	}
	if list := impl.DeliveredOver(fates, many); list != nil {
		t.Errorf("%s: DeliveredOver %v, %d = %v", name, fates, many, list)
	}
	if n := impl.SendsOver(fates, many); n != -1 {
		t.Errorf("%s: SendsOver %v, %d = %d", name, fates, many, n)
	}
	if list := impl.UnackedOver(fates, many); list != nil {
		t.Errorf("%s: UnackedOver %v, %d = %v", name, fates, many, list)
	}
}

func TestInvalidLinks(t *testing.T) {
	for name, fates := range map[string][]int{
		"too many fates":           times(21, impl.FateArrives),
		"too many fates, lost":     times(21, impl.FateLost),
		"far too many fates":       times(200, impl.FateMute),
		"fate below":               {-1},
		"fate above":               {4},
		"fate below, first":        join([]int{-1}, fatesOf("AA")),
		"fate above, first":        join([]int{4}, fatesOf("AA")),
		"fate below, last":         join(fatesOf("AL"), []int{-1}),
		"fate above, last":         join(fatesOf("AL"), []int{4}),
		"fate above, within":       join(fatesOf("A"), []int{4}, fatesOf("L")),
		"fate that is not used":    join(times(12, impl.FateArrives), []int{4}),
		"fate below, twentieth":    join(times(19, impl.FateArrives), []int{-1}),
		"fate above, twentieth":    join(times(19, impl.FateLost), []int{4}),
		"fate above, and too many": join(times(20, impl.FateLost), []int{4}),
		"least fate":               {leastInt},
		"greatest fate":            {impl.FateArrives, mostInt},
	} {
		for many := -1; many <= impl.MaxFlight+1; many++ {
			wantNoLink(t, name, fates, many)
		}
	}
	for _, fates := range fateLists()[:100] {
		for _, many := range []int{-1, -2, 9, 10, 20, 64, leastInt, mostInt} {
			wantNoLink(t, "many", fates, many)
		}
	}
	wantNoLink(t, "many", times(20, impl.FateArrives), 9)
	wantNoLink(t, "many", times(20, impl.FateLost), -1)
}

// P77, P79, P80, P81: runs, written by hand.
func TestLinksByHand(t *testing.T) {
	for name, c := range map[string]struct {
		fates     string
		many      int
		arrived   []int
		delivered []int
		sends     int
		open      []int
	}{
		"no fates":                     {"", 3, nil, nil, 0, []int{0, 1, 2}},
		"no fates, no batches":         {"", 0, nil, nil, 0, nil},
		"no batches":                   {"ALMT", 0, nil, nil, 0, nil},
		"arrives":                      {"A", 1, []int{0}, []int{0}, 1, nil},
		"lost":                         {"L", 1, nil, nil, 1, []int{0}},
		"mute":                         {"M", 1, []int{0}, []int{0}, 1, []int{0}},
		"twice":                        {"T", 1, []int{0, 0}, []int{0}, 1, nil},
		"more fates than needed":       {"AALT", 2, []int{0, 1}, []int{0, 1}, 2, nil},
		"twice, and no more":           {"TTT", 2, []int{0, 0, 1, 1}, []int{0, 1}, 2, nil},
		"fewer fates than batches":     {"AA", 4, []int{0, 1}, []int{0, 1}, 2, []int{2, 3}},
		"lost, then arrives":           {"LA", 1, []int{0}, []int{0}, 2, nil},
		"lost, behind the others":      {"LAAA", 3, []int{1, 2, 0}, []int{1, 2, 0}, 4, nil},
		"two lost, in order":           {"LALAA", 3, []int{1, 0, 2}, []int{1, 0, 2}, 5, nil},
		"two rounds, all lost":         {"LLLL", 2, nil, nil, 4, []int{0, 1}},
		"the second round is ahead":    {"LLLAAA", 3, []int{0, 1, 2}, []int{0, 1, 2}, 6, nil},
		"three rounds":                 {"LLLLALAA", 3, []int{1, 0, 2}, []int{1, 0, 2}, 8, nil},
		"within the second round":      {"LLLA", 3, []int{0}, []int{0}, 4, []int{1, 2}},
		"lost within the second round": {"LLLL", 3, nil, nil, 4, []int{0, 1, 2}},
		"open at last is ascending":    {"LALLLA", 4, []int{1, 2}, []int{1, 2}, 6, []int{0, 3}},
		"mute, then arrives":           {"MA", 1, []int{0, 0}, []int{0}, 2, nil},
		"mute, then lost":              {"ML", 1, []int{0}, []int{0}, 2, []int{0}},
		"mute, then mute":              {"MMM", 1, []int{0, 0, 0}, []int{0}, 3, []int{0}},
		"mute, then twice":             {"MTA", 1, []int{0, 0, 0}, []int{0}, 2, nil},
		"mute, behind the others":      {"MAA", 2, []int{0, 1, 0}, []int{0, 1}, 3, nil},
		"mute, two rounds":             {"MMMM", 2, []int{0, 1, 0, 1}, []int{0, 1}, 4, []int{0, 1}},
		"delivered where it is first":  {"LMTAA", 3, []int{1, 2, 2, 0, 1}, []int{1, 2, 0}, 5, nil},
		"all kinds":                    {"ALMTLAA", 4, []int{0, 2, 3, 3, 2, 1}, []int{0, 2, 3, 1}, 7, nil},
		"most batches":                 {"LAAAAAAAA", 8, []int{1, 2, 3, 4, 5, 6, 7, 0}, []int{1, 2, 3, 4, 5, 6, 7, 0}, 9, nil},
		"most fates, mute":             {strings.Repeat("M", 20), 8, join(upTo(8), upTo(8), upTo(4)), upTo(8), 20, upTo(8)},
		"most fates, lost":             {strings.Repeat("L", 20), 8, nil, nil, 20, upTo(8)},
		"the last fate":                {strings.Repeat("L", 19) + "A", 1, []int{0}, []int{0}, 20, nil},
		"the last fate, the fourth":    {strings.Repeat("L", 19) + "T", 8, []int{3, 3}, []int{3}, 20, []int{0, 1, 2, 4, 5, 6, 7}},
	} {
		fates := fatesOf(c.fates)
		if list := impl.ArrivedOver(fates, c.many); !slices.Equal(list, c.arrived) {
			t.Errorf("%s: ArrivedOver = %v", name, list)
		}
		if list := impl.DeliveredOver(fates, c.many); !slices.Equal(list, c.delivered) {
			t.Errorf("%s: DeliveredOver = %v", name, list)
		}
		if n := impl.SendsOver(fates, c.many); n != c.sends {
			t.Errorf("%s: SendsOver = %d", name, n)
		}
		if list := impl.UnackedOver(fates, c.many); !slices.Equal(list, c.open) {
			t.Errorf("%s: UnackedOver = %v", name, list)
		}
	}
}

// P77, P79, P80, P81.
func TestLinksGoByRounds(t *testing.T) {
	eachLink(func(fates []int, many int) {
		arrived, sends, open := linkByHand(fates, many)
		if list := impl.ArrivedOver(fates, many); !slices.Equal(list, arrived) {
			t.Errorf("ArrivedOver %v, %d = %v, not %v", fates, many, list, arrived)
		}
		if list := impl.DeliveredOver(fates, many); !slices.Equal(list, firsts(arrived)) {
			t.Errorf("DeliveredOver %v, %d = %v, not %v", fates, many, list, firsts(arrived))
		}
		if n := impl.SendsOver(fates, many); n != sends {
			t.Errorf("SendsOver %v, %d = %d, not %d", fates, many, n, sends)
		}
		if list := impl.UnackedOver(fates, many); !slices.Equal(list, open) {
			t.Errorf("UnackedOver %v, %d = %v, not %v", fates, many, list, open)
		}
	})
}

// P77.
func TestWhatArrivesWasSent(t *testing.T) {
	eachLink(func(fates []int, many int) {
		arrived, sends := impl.ArrivedOver(fates, many), impl.SendsOver(fates, many)
		isOther := func(n int) bool { return n < 0 || n >= many }
		if slices.ContainsFunc(arrived, isOther) || len(arrived) > 2*sends {
			t.Errorf("ArrivedOver %v, %d = %v, and SendsOver = %d", fates, many, arrived, sends)
		}
	})
}

// P79.
func TestEachBatchIsDeliveredOnce(t *testing.T) {
	eachLink(func(fates []int, many int) {
		arrived, delivered := impl.ArrivedOver(fates, many), impl.DeliveredOver(fates, many)
		for n := range many {
			count := 0
			for _, m := range delivered {
				if m == n {
					count++
				}
			}
			if count > 1 || (count == 1) != slices.Contains(arrived, n) {
				t.Errorf("DeliveredOver %v, %d = %v, and ArrivedOver = %v", fates, many, delivered, arrived)
			}
		}
		if len(delivered) > len(arrived) || len(delivered) > many {
			t.Errorf("DeliveredOver %v, %d = %v, and ArrivedOver = %v", fates, many, delivered, arrived)
		}
	})
}

// P80, P81.
func TestAcknowledgedBatchesAreDelivered(t *testing.T) {
	eachLink(func(fates []int, many int) {
		delivered, open := impl.DeliveredOver(fates, many), impl.UnackedOver(fates, many)
		for n := range many {
			if !slices.Contains(open, n) && !slices.Contains(delivered, n) {
				t.Errorf("UnackedOver %v, %d = %v, and DeliveredOver = %v", fates, many, open, delivered)
			}
		}
		if n := impl.SendsOver(fates, many); n != len(fates) && len(open) > 0 || n > len(fates) || n < 0 {
			t.Errorf("UnackedOver %v, %d = %v, and SendsOver = %d", fates, many, open, n)
		}
	})
}

// P78, P167.
func TestMoreFatesLetMoreArrive(t *testing.T) {
	eachLink(func(fates []int, many int) {
		arrived, open := impl.ArrivedOver(fates, many), impl.UnackedOver(fates, many)
		for n := range fates {
			if fewer := impl.ArrivedOver(fates[:n], many); !startsWith(arrived, fewer) {
				t.Errorf("ArrivedOver %v, %d = %v, and with %d fates %v", fates, many, arrived, n, fewer)
			}
			before := impl.UnackedOver(fates[:n], many)
			for _, m := range open {
				if !slices.Contains(before, m) {
					t.Errorf("UnackedOver %v, %d = %v, and with %d fates %v", fates, many, open, n, before)
				}
			}
		}
	})
}

// P82: with good links, and with more fates than are used.
func TestGoodLinksSendEachBatchOnce(t *testing.T) {
	for many := range impl.MaxFlight + 1 {
		for _, fates := range [][]int{times(many, impl.FateArrives), times(20, impl.FateArrives)} {
			arrived, delivered := impl.ArrivedOver(fates, many), impl.DeliveredOver(fates, many)
			if !slices.Equal(arrived, upTo(many)) || !slices.Equal(delivered, upTo(many)) {
				t.Errorf("%v, %d: ArrivedOver = %v, DeliveredOver = %v", fates, many, arrived, delivered)
			}
			if impl.SendsOver(fates, many) != many || len(impl.UnackedOver(fates, many)) != 0 {
				t.Errorf("%v, %d: SendsOver = %d, UnackedOver = %v", fates, many, impl.SendsOver(fates, many), impl.UnackedOver(fates, many))
			}
		}
	}
}

// P83.
func TestLostLinksLeaveEverythingOpen(t *testing.T) {
	for many := 1; many <= impl.MaxFlight; many++ {
		for n := range impl.MaxFates + 1 {
			fates := times(n, impl.FateLost)
			arrived, delivered := impl.ArrivedOver(fates, many), impl.DeliveredOver(fates, many)
			if len(arrived) != 0 || len(delivered) != 0 {
				t.Errorf("%v, %d: ArrivedOver = %v, DeliveredOver = %v", fates, many, arrived, delivered)
			}
			if impl.SendsOver(fates, many) != n || !slices.Equal(impl.UnackedOver(fates, many), upTo(many)) {
				t.Errorf("%v, %d: SendsOver = %d, UnackedOver = %v", fates, many, impl.SendsOver(fates, many), impl.UnackedOver(fates, many))
			}
		}
	}
}

// P165.
func TestWithoutBatchesNothingIsSent(t *testing.T) {
	for _, fates := range fateLists() {
		if list := impl.ArrivedOver(fates, 0); len(list) != 0 {
			t.Errorf("ArrivedOver %v, 0 = %v", fates, list)
		}
		if n := impl.SendsOver(fates, 0); n != 0 {
			t.Errorf("SendsOver %v, 0 = %d", fates, n)
		}
		if len(impl.DeliveredOver(fates, 0)) != 0 || len(impl.UnackedOver(fates, 0)) != 0 {
			t.Errorf("%v, 0: DeliveredOver = %v, UnackedOver = %v", fates, impl.DeliveredOver(fates, 0), impl.UnackedOver(fates, 0))
		}
	}
}

// P166: with mute links of one round, and of more.
func TestMuteLinksDeliverInTheFirstRound(t *testing.T) {
	for many := 1; many <= impl.MaxFlight; many++ {
		for n := many; n <= impl.MaxFates; n++ {
			fates := times(n, impl.FateMute)
			arrived, delivered := impl.ArrivedOver(fates, many), impl.DeliveredOver(fates, many)
			if !slices.Equal(delivered, upTo(many)) || !slices.Equal(arrived, slices.Repeat(upTo(many), 20)[:n]) {
				t.Errorf("%v, %d: ArrivedOver = %v, DeliveredOver = %v", fates, many, arrived, delivered)
			}
			if impl.SendsOver(fates, many) != n || !slices.Equal(impl.UnackedOver(fates, many), upTo(many)) {
				t.Errorf("%v, %d: SendsOver = %d, UnackedOver = %v", fates, many, impl.SendsOver(fates, many), impl.UnackedOver(fates, many))
			}
		}
	}
}

// P81, P83: a slice without elements is the same as none, whatever memory it
// has.
func TestEmptyListsHaveNoFates(t *testing.T) {
	for _, fates := range [][]int{nil, {}, spare([]int{}), fatesOf("AA")[:0]} {
		for many := range impl.MaxFlight + 1 {
			if len(impl.ArrivedOver(fates, many)) != 0 || len(impl.DeliveredOver(fates, many)) != 0 {
				t.Errorf("%d: ArrivedOver = %v", many, impl.ArrivedOver(fates, many))
			}
			if impl.SendsOver(fates, many) != 0 || !slices.Equal(impl.UnackedOver(fates, many), upTo(many)) {
				t.Errorf("%d: UnackedOver = %v", many, impl.UnackedOver(fates, many))
			}
		}
		wantNoLink(t, "many", fates, -1)
		wantNoLink(t, "many", fates, 9)
	}
}

func TestLinksShareNoMemory(t *testing.T) {
	all := fatesOf("ALMTLMAL")
	fates := spare(all)
	for many := range impl.MaxFlight + 1 {
		arrived, sends, open := linkByHand(all, many)
		for range 2 {
			results := [][]int{impl.ArrivedOver(fates, many), impl.DeliveredOver(fates, many), impl.UnackedOver(fates, many)}
			if !slices.Equal(results[0], arrived) || !slices.Equal(results[1], firsts(arrived)) || !slices.Equal(results[2], open) || impl.SendsOver(fates, many) != sends {
				t.Errorf("a result is kept: %v", results)
			}
			for _, list := range results {
				overwrite(list, 77)
				if !slices.Equal(fates, all) || !zeros(behind(fates)) {
					t.Fatalf("an argument is changed: %v", fates)
				}
			}
		}
	}
}
