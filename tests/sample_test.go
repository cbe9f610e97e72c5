package tests

import (
	"slices"
	"testing"

	"loop.example/telemetryagent/impl"
)

// keepsByHand reports whether a key is kept by a rate: what is too much is
// taken away until less than the divisor is left.
func keepsByHand(key int, rate int) bool {
	n := key*29 + 7
	for n >= 256 {
		n -= 256
	}
	for n >= rate {
		n -= rate
	}
	return n == 0
}

// keptByHand returns those of some keys that are kept by a rate, in order.
func keptByHand(list []int, rate int) []int {
	return slices.DeleteFunc(slices.Clone(list), func(key int) bool { return !keepsByHand(key, rate) })
}

// rateByHand returns the least rate by which at most some keys are kept.
func rateByHand(list []int, most int) int {
	for _, rate := range []int{1, 2, 4, 8, 16} {
		if len(keptByHand(list, rate)) <= most {
			return rate
		}
	}
	return -1
}

// alwaysKept has all keys that are kept by the rates 1, 2, 4, 8 and 16.
func alwaysKept() []int {
	return []int{13, 29, 45, 61, 77, 93, 109, 125, 141, 157, 173, 189, 205, 221, 237, 253}
}

// keyLists has no keys, each key alone, keys in a row, the same key many
// times, keys that are kept by great rates, and other lists of all lengths.
func keyLists() [][]int {
	lists := [][]int{nil, alwaysKept()}
	for key := range impl.MaxByte + 1 {
		lists = append(lists, []int{key})
	}
	for n := range impl.MaxKeys + 1 {
		lists = append(lists, upTo(n), times(n, 13), times(n, 0), times(n, 255), alwaysKept()[:n])
		falling := alwaysKept()
		slices.Reverse(falling)
		lists = append(lists, falling[:n], join(times(n, 1), times(16-n, 13)))
	}
	d := dice{state: 11}
	for i := range 300 {
		list := d.bytes(1 + i%16)
		// Most keys are dropped by great rates, so that some are made others.
		for j := range list {
			if i%3 == 1 {
				list[j] = list[j]/8*8 + 5
			} else if i%3 == 2 && j%2 == 0 {
				list[j] = list[j]/16*16 + 13
			}
		}
		lists = append(lists, list)
	}
	return lists
}

// otherKeys has numbers that are no keys; some of them would be kept.
func otherKeys() []int {
	return []int{-1, -3, -256, -243, 256, 257, 269, 511, 1000, leastInt, leastInt + 13, mostInt, mostInt - 2}
}

// otherRates has numbers that are no rates.
func otherRates() []int {
	return []int{0, -1, -2, -16, 17, 18, 32, 64, 256, leastInt, mostInt}
}

// wantNoSample reports an error if some keys are kept by some rate.
func wantNoSample(t *testing.T, what string, list []int, rate int) {
	t.Helper()
	if kept := impl.SampleKeys(list, rate); kept != nil {
		t.Errorf("%s: SampleKeys of %v by %d = %v", what, list, rate, kept)
	}
}

// P84, P86: which of the first keys are kept.
func TestWhichKeysAreKept(t *testing.T) {
	for rate, want := range map[int][]int{
		1:  upTo(48),
		2:  {1, 3, 5, 7, 9, 11, 13, 15, 17, 19, 21, 23, 25, 27, 29, 31, 33, 35, 37, 39, 41, 43, 45, 47},
		3:  {1, 4, 7, 9, 12, 15, 20, 23, 26, 28, 31, 34, 36, 39, 42, 44, 47},
		4:  {1, 5, 9, 13, 17, 21, 25, 29, 33, 37, 41, 45},
		7:  {0, 7, 11, 22, 33, 37},
		8:  {5, 13, 21, 29, 37, 45},
		9:  {1, 12, 23, 34, 36, 47},
		11: {12, 25, 27, 40},
		13: {2, 21, 40},
		15: {7, 20, 34, 47},
		16: {13, 29, 45},
	} {
		var kept []int
		for key := range 48 {
			if impl.KeepsKey(key, rate) {
				kept = append(kept, key)
			}
		}
		if !slices.Equal(kept, want) {
			t.Errorf("by the rate %d KeepsKey keeps %v, not %v", rate, kept, want)
		}
		for from := 0; from < 48; from += impl.MaxKeys {
			part := upTo(48)[from : from+impl.MaxKeys]
			isOutside := func(key int) bool { return key < from || key >= from+impl.MaxKeys }
			wanted := slices.DeleteFunc(slices.Clone(want), isOutside)
			if list := impl.SampleKeys(part, rate); !slices.Equal(list, wanted) {
				t.Errorf("SampleKeys of %v by %d = %v, not %v", part, rate, list, wanted)
			}
		}
	}
}

// P84: all keys and rates, held against the rule.
func TestRatesKeepParts(t *testing.T) {
	for key := range impl.MaxByte + 1 {
		for rate := 1; rate <= impl.MaxRate; rate++ {
			keeps := impl.KeepsKey(key, rate)
			if keeps != keepsByHand(key, rate) {
				t.Errorf("KeepsKey of %d, %d = %t", key, rate, keeps)
			}
			for part := 1; part <= rate; part++ {
				if keeps && rate%part == 0 && !impl.KeepsKey(key, part) {
					t.Errorf("KeepsKey of %d holds by %d, but not by %d", key, rate, part)
				}
			}
		}
		if !impl.KeepsKey(key, 1) {
			t.Errorf("KeepsKey of %d, 1 = false", key)
		}
	}
}

func TestInvalidKeysAreNotKept(t *testing.T) {
	for _, key := range otherKeys() {
		for _, rate := range join(otherRates(), upTo(17)) {
			if impl.KeepsKey(key, rate) {
				t.Errorf("KeepsKey of %d, %d = true", key, rate)
			}
		}
	}
	for key := range impl.MaxByte + 1 {
		for _, rate := range otherRates() {
			if impl.KeepsKey(key, rate) {
				t.Errorf("KeepsKey of %d, %d = true", key, rate)
			}
		}
	}
}

// P85, P177: of all keys.
func TestOneOfSomeIsKept(t *testing.T) {
	for rate, want := range map[int]int{1: 256, 2: 128, 4: 64, 8: 32, 16: 16} {
		kept := 0
		for key := range impl.SampleCycle {
			if impl.KeepsKey(key, rate) {
				kept++
			}
		}
		if kept != want || kept != impl.SampleCycle/rate {
			t.Errorf("%d keys are kept by %d, not %d", kept, rate, want)
		}
		if rate != 1 && impl.GuessAll(kept, rate) != impl.SampleCycle {
			t.Errorf("GuessAll of %d, %d = %d", kept, rate, impl.GuessAll(kept, rate))
		}
	}
	for _, key := range alwaysKept() {
		if !impl.KeepsKey(key, 16) {
			t.Errorf("KeepsKey of %d, 16 = false", key)
		}
	}
}

// P86: samples, written by hand.
func TestSamplesByHand(t *testing.T) {
	for name, c := range map[string]struct {
		list []int
		rate int
		kept []int
	}{
		"no keys":               {nil, 1, nil},
		"no keys, great rate":   {nil, 16, nil},
		"one key":               {[]int{77}, 1, []int{77}},
		"one key, dropped":      {[]int{78}, 2, nil},
		"one key, kept":         {[]int{77}, 16, []int{77}},
		"the least key":         {[]int{0}, 7, []int{0}},
		"the greatest key":      {[]int{255}, 2, []int{255}},
		"both":                  {[]int{255, 0}, 1, []int{255, 0}},
		"in order":              {[]int{9, 2, 5, 1, 4}, 4, []int{9, 5, 1}},
		"the same ones":         {[]int{5, 1, 5, 2, 2, 5}, 4, []int{5, 1, 5, 5}},
		"most keys, all":        {times(16, 8), 1, times(16, 8)},
		"most keys, none":       {times(16, 8), 16, nil},
		"most keys, great rate": {alwaysKept(), 16, alwaysKept()},
		"the last one alone":    {join(times(15, 0), []int{253}), 16, []int{253}},
		"the first one alone":   {join([]int{253}, times(15, 0)), 16, []int{253}},
		"no power of 2":         {upTo(16), 9, []int{1, 12}},
	} {
		if kept := impl.SampleKeys(c.list, c.rate); !slices.Equal(kept, c.kept) {
			t.Errorf("%s: SampleKeys of %v by %d = %v, not %v", name, c.list, c.rate, kept, c.kept)
		}
	}
}

// P86, P168.
func TestSampledKeysAreKept(t *testing.T) {
	for _, list := range keyLists() {
		for rate := 1; rate <= impl.MaxRate; rate++ {
			kept := impl.SampleKeys(list, rate)
			if !slices.Equal(kept, keptByHand(list, rate)) {
				t.Errorf("SampleKeys of %v by %d = %v", list, rate, kept)
			}
			isDropped := func(key int) bool { return !impl.KeepsKey(key, rate) }
			if !slices.Equal(kept, slices.DeleteFunc(slices.Clone(list), isDropped)) {
				t.Errorf("SampleKeys of %v by %d = %v, and KeepsKey keeps others", list, rate, kept)
			}
			if 2*rate > impl.MaxRate {
				continue
			}
			fewer := impl.SampleKeys(list, 2*rate)
			if !slices.Equal(fewer, impl.SampleKeys(kept, 2*rate)) {
				t.Errorf("SampleKeys of %v by %d = %v, and by twice as much %v", list, rate, kept, fewer)
			}
		}
	}
}

// P87.
func TestSamplesAddUp(t *testing.T) {
	for _, list := range keyLists() {
		for n := range len(list) + 1 {
			for rate := 1; rate <= impl.MaxRate; rate++ {
				first, second := impl.SampleKeys(list[:n], rate), impl.SampleKeys(list[n:], rate)
				if kept := impl.SampleKeys(list, rate); !slices.Equal(kept, join(first, second)) {
					t.Errorf("SampleKeys of %v by %d = %v, and of %d keys and the rest %v, %v", list, rate, kept, n, first, second)
				}
			}
		}
	}
}

func TestInvalidSamples(t *testing.T) {
	lists := map[string][]int{
		"too many":          times(17, 13),
		"too many, dropped": times(17, 0),
		"far too many":      times(300, 13),
	}
	for _, list := range lists {
		for most := -1; most <= 17; most++ {
			if rate := impl.RateFor(list, most); rate != -1 {
				t.Errorf("RateFor %v, %d = %d", list, most, rate)
			}
		}
	}
	for _, key := range otherKeys() {
		lists["key alone"] = []int{key}
		lists["key first"] = join([]int{key}, []int{13, 29})
		lists["key within"] = join([]int{13}, []int{key}, []int{29})
		lists["key last"] = join([]int{13, 29}, []int{key})
		lists["key sixteenth"] = join(times(15, 13), []int{key})
		for name, list := range lists {
			for rate := range 19 {
				wantNoSample(t, name, list, rate-1)
			}
			for _, most := range []int{0, 1, 3, 15, 16} {
				if rate := impl.RateFor(list, most); rate != -1 {
					t.Errorf("%s: RateFor %v, %d = %d", name, list, most, rate)
				}
			}
		}
	}
	for _, list := range [][]int{nil, {}, {13}, {0}, times(16, 13), alwaysKept()} {
		for _, rate := range otherRates() {
			wantNoSample(t, "rate", list, rate)
		}
	}
}

// P88: guesses, written by hand.
func TestGuessesByHand(t *testing.T) {
	for _, c := range [][3]int{
		{0, 1, 0}, {0, 16, 0}, {1, 1, 1}, {1, 2, 2}, {1, 16, 16}, {5, 4, 20}, {7, 13, 91},
		{13, 15, 195}, {100, 3, 300}, {199, 16, 3184}, {200, 1, 200}, {200, 15, 3000}, {200, 16, 3200},
	} {
		if n := impl.GuessAll(c[0], c[1]); n != c[2] {
			t.Errorf("GuessAll of %d, %d = %d, not %d", c[0], c[1], n, c[2])
		}
	}
}

// P88.
func TestGuessesGrow(t *testing.T) {
	for rate := 1; rate <= impl.MaxRate; rate++ {
		want := 0
		for kept := range impl.MaxTotal + 1 {
			if n := impl.GuessAll(kept, rate); n != want {
				t.Errorf("GuessAll of %d, %d = %d, not %d", kept, rate, n, want)
			}
			if rate == 1 && impl.GuessAll(kept, rate) != kept {
				t.Errorf("GuessAll of %d, 1 = %d", kept, impl.GuessAll(kept, rate))
			}
			want += rate
		}
	}
}

func TestInvalidGuesses(t *testing.T) {
	others := []int{-1, -2, -200, 201, 202, 256, 3200, leastInt, mostInt}
	for rate := range 19 {
		for _, kept := range others {
			if n := impl.GuessAll(kept, rate-1); n != -1 {
				t.Errorf("GuessAll of %d, %d = %d", kept, rate-1, n)
			}
		}
	}
	for _, rate := range otherRates() {
		for kept := range impl.MaxTotal + 1 {
			if n := impl.GuessAll(kept, rate); n != -1 {
				t.Errorf("GuessAll of %d, %d = %d", kept, rate, n)
			}
		}
		for _, kept := range others {
			if n := impl.GuessAll(kept, rate); n != -1 {
				t.Errorf("GuessAll of %d, %d = %d", kept, rate, n)
			}
		}
	}
}

// P89, P90, P169: rates, written by hand.
func TestRatesByHand(t *testing.T) {
	for name, c := range map[string]struct {
		list []int
		most int
		rate int
	}{
		"no keys":                    {nil, 0, 1},
		"no keys, most":              {nil, 16, 1},
		"one key may be kept":        {[]int{13}, 1, 1},
		"one key is always kept":     {[]int{13}, 0, -1},
		"one key is kept up to 8":    {[]int{5}, 0, 16},
		"one key is kept up to 4":    {[]int{1}, 0, 8},
		"one key is kept up to 2":    {[]int{3}, 0, 4},
		"one key is kept by 1 alone": {[]int{0}, 0, 2},
		"all of a row":               {upTo(16), 16, 1},
		"fewer than a row":           {upTo(16), 15, 2},
		"half of a row":              {upTo(16), 8, 2},
		"less than half":             {upTo(16), 7, 4},
		"a quarter":                  {upTo(16), 4, 4},
		"less than a quarter":        {upTo(16), 3, 8},
		"two":                        {upTo(16), 2, 8},
		"one":                        {upTo(16), 1, 16},
		"none of a row":              {upTo(16), 0, -1},
		"none of a shorter row":      {upTo(13), 0, 16},
		"none of a short row":        {upTo(5), 0, 8},
		"all are always kept":        {alwaysKept(), 16, 1},
		"all but one may be kept":    {alwaysKept(), 15, -1},
		"the same ones":              {times(16, 5), 15, 16},
		"the same ones, all":         {times(16, 5), 16, 1},
		"few of many":                {join(times(4, 13), times(6, 1), times(6, 0)), 10, 2},
		"fewer of many":              {join(times(4, 13), times(6, 1), times(6, 0)), 9, 8},
		"fewest of many":             {join(times(4, 13), times(6, 1), times(6, 0)), 4, 8},
		"too few of many":            {join(times(4, 13), times(6, 1), times(6, 0)), 3, -1},
	} {
		if rate := impl.RateFor(c.list, c.most); rate != c.rate {
			t.Errorf("%s: RateFor %v, %d = %d, not %d", name, c.list, c.most, rate, c.rate)
		}
	}
}

// P89, P90, P169.
func TestRatesAreTheLeast(t *testing.T) {
	for _, list := range keyLists() {
		before := -1
		for most := range impl.MaxKeys + 1 {
			rate := impl.RateFor(list, most)
			if rate != rateByHand(list, most) {
				t.Errorf("RateFor %v, %d = %d, not %d", list, most, rate, rateByHand(list, most))
			}
			if before != -1 && (rate == -1 || rate > before) {
				t.Errorf("RateFor %v, %d = %d, and 1 less %d", list, most, rate, before)
			}
			if rate != -1 && len(impl.SampleKeys(list, rate)) > most {
				t.Errorf("RateFor %v, %d = %d, and SampleKeys = %v", list, most, rate, impl.SampleKeys(list, rate))
			}
			if rate > 1 && len(impl.SampleKeys(list, rate/2)) <= most {
				t.Errorf("RateFor %v, %d = %d, and by half of it SampleKeys = %v", list, most, rate, impl.SampleKeys(list, rate/2))
			}
			if most >= len(list) && rate != 1 {
				t.Errorf("RateFor %v, %d = %d", list, most, rate)
			}
			before = rate
		}
	}
}

func TestInvalidRates(t *testing.T) {
	for _, list := range keyLists() {
		for _, most := range []int{-1, -2, 17, 18, 200, leastInt, mostInt} {
			if rate := impl.RateFor(list, most); rate != -1 {
				t.Errorf("RateFor %v, %d = %d", list, most, rate)
			}
		}
	}
}

// P86, P169: a slice without elements is the same as none, whatever memory it
// has.
func TestEmptyListsHaveNoKeys(t *testing.T) {
	for _, list := range [][]int{nil, {}, spare([]int{}), times(17, 13)[:0], times(1, 256)[:0]} {
		for rate := 1; rate <= impl.MaxRate; rate++ {
			if kept := impl.SampleKeys(list, rate); len(kept) != 0 {
				t.Errorf("SampleKeys of none by %d = %v", rate, kept)
			}
		}
		for most := range impl.MaxKeys + 1 {
			if rate := impl.RateFor(list, most); rate != 1 {
				t.Errorf("RateFor none, %d = %d", most, rate)
			}
		}
	}
}

func TestSamplesShareNoMemory(t *testing.T) {
	for _, all := range [][]int{nil, {13}, {0, 1, 13, 2, 5}, alwaysKept()} {
		list := spare(all)
		for rate := 1; rate <= impl.MaxRate; rate++ {
			for range 2 {
				kept := impl.SampleKeys(list, rate)
				if !slices.Equal(kept, keptByHand(all, rate)) {
					t.Errorf("a result is kept: %v", kept)
				}
				impl.RateFor(list, rate)
				overwrite(kept, 77)
				if !slices.Equal(list, all) || !zeros(behind(list)) {
					t.Fatalf("an argument is changed: %v", list)
				}
			}
		}
	}
}
