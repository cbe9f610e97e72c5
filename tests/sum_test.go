package tests

import (
	"slices"
	"testing"

	"loop.example/telemetryagent/impl"
)

// sum returns a sum.
func sum(key int, count int, all int, least int, most int) impl.Sum {
	return impl.Sum{Key: key, Count: count, All: all, Least: least, Most: most}
}

// sums returns a list of sums.
func sums(list ...impl.Sum) []impl.Sum {
	return list
}

// sumOfValues returns the sum of some values of a key, at least one.
func sumOfValues(key int, values ...int) impl.Sum {
	return sum(key, len(values), addUp(values), slices.Min(values), slices.Max(values))
}

// equalSums returns sums of keys from a first one on, each of as many equal
// values.
func equalSums(first int, keys int, count int, value int) []impl.Sum {
	var list []impl.Sum
	for i := range keys {
		list = append(list, sum(first+i, count, count*value, value, value))
	}
	return list
}

// edgeSums has single sums whose numbers are just allowed.
func edgeSums() []impl.Sum {
	var list []impl.Sum
	for _, key := range []int{0, 1, 100, 255} {
		for _, count := range []int{1, 2, 7, 99, 100} {
			for _, least := range []int{0, 1, 128, 254, 255} {
				for most := least; most <= 255; most += 127 {
					all := []int{least * count, least*count + 1, (least + most) * count / 2, most*count - 1, most * count}
					for _, n := range all {
						if n >= least*count && n <= most*count {
							list = append(list, sum(key, count, n, least, most))
						}
					}
				}
			}
		}
	}
	return list
}

// sumLists has valid sums: none, single ones, as many as there may be, some of
// the same keys, some with equal sums, and some with the largest counts.
func sumLists() [][]impl.Sum {
	lists := [][]impl.Sum{nil, equalSums(0, 8, 1, 0), equalSums(248, 8, 100, 255), equalSums(3, 8, 50, 9), equalSums(1, 7, 51, 9), equalSums(5, 4, 99, 1)}
	d := dice{state: 12}
	for i := range 90 {
		var list []impl.Sum
		step := []int{2, 4, 31}[i%3]
		for key := d.roll(step); len(list) < i%9 && key <= impl.MaxByte; key += 1 + d.roll(step) {
			var values []int
			for range 1 + d.roll([]int{3, 52, 100}[i/3%3]) {
				values = append(values, d.roll([]int{2, 100, 256}[i/9%3]))
			}
			x := sumOfValues(key, values...)
			// Bounds may be wider than any values would make them.
			if i%2 == 1 {
				x.Least, x.Most = d.roll(x.Least+1), x.Most+d.roll(256-x.Most)
			}
			list = append(list, x)
		}
		lists = append(lists, list)
	}
	return lists
}

// moreSums has the lists of sumLists, and single sums whose numbers are just
// allowed.
func moreSums() [][]impl.Sum {
	lists := sumLists()
	for _, x := range edgeSums() {
		lists = append(lists, sums(x))
	}
	return lists
}

// invalidSums has lists that are not valid.
func invalidSums() map[string][]impl.Sum {
	good := sum(5, 2, 13, 3, 10)
	return map[string][]impl.Sum{
		"too many":               equalSums(0, 9, 1, 1),
		"far too many":           equalSums(0, 200, 1, 1),
		"zero value":             {{}},
		"key alone":              {{Key: 1}},
		"same key":               {good, good},
		"same key, other sum":    {good, sum(5, 1, 1, 1, 1)},
		"same key 0":             {sum(0, 1, 1, 1, 1), sum(0, 1, 1, 1, 1)},
		"same key, last":         append(equalSums(1, 4, 1, 1), sum(4, 1, 1, 1, 1)),
		"same key, apart":        {good, sum(6, 1, 1, 1, 1), good},
		"falling keys":           {good, sum(4, 1, 1, 1, 1)},
		"falling keys, last":     append(equalSums(1, 4, 1, 1), sum(0, 1, 1, 1, 1)),
		"falling keys, first":    {sum(200, 1, 1, 1, 1), good, sum(201, 1, 1, 1, 1)},
		"key below":              {sum(-1, 1, 1, 1, 1)},
		"key below, first":       {sum(-1, 1, 1, 1, 1), good},
		"key above":              {sum(256, 1, 1, 1, 1)},
		"key above, last":        {good, sum(256, 1, 1, 1, 1)},
		"least key":              {sum(leastInt, 1, 1, 1, 1)},
		"greatest key":           {sum(mostInt, 1, 1, 1, 1)},
		"greatest key, around":   {sum(mostInt, 1, 1, 1, 1), sum(leastInt, 1, 1, 1, 1)},
		"no values":              {sum(5, 0, 0, 0, 0)},
		"no values, with bounds": {sum(5, 0, 0, 0, 255)},
		"no values, last":        {good, sum(6, 0, 0, 0, 0)},
		"count below":            {sum(5, -1, 0, 0, 0)},
		"count below, all, too":  {sum(5, -1, -5, 5, 5)},
		"count above":            {sum(5, 101, 101, 1, 1)},
		"count above, all 0":     {sum(5, 101, 0, 0, 0)},
		"count above, first":     {sum(4, 101, 101, 1, 1), good},
		"least count":            {sum(5, leastInt, 0, 0, 255)},
		"greatest count":         {sum(5, mostInt, 0, 0, 255)},
		"count around":           {sum(5, 1<<62, 0, 0, 4)},
		"count around, least":    {sum(5, 1<<62, 0, 4, 4)},
		"least below":            {sum(5, 1, 0, -1, 0)},
		"least below, all, too":  {sum(5, 1, -1, -1, 0)},
		"both bounds below":      {sum(5, 1, -1, -1, -1)},
		"least above":            {sum(5, 1, 256, 256, 256)},
		"least least":            {sum(5, 1, 0, leastInt, 0)},
		"greatest least":         {sum(5, 1, mostInt, mostInt, mostInt)},
		"least around":           {sum(5, 4, 0, 1<<62, 1<<62)},
		"most above":             {sum(5, 1, 1, 0, 256)},
		"most above, all, too":   {sum(5, 1, 256, 0, 256)},
		"most above, last":       {good, sum(6, 1, 1, 0, 256)},
		"most below":             {sum(5, 1, 0, 0, -1)},
		"most below least":       {sum(5, 1, 7, 7, 6)},
		"most below, all, too":   {sum(5, 1, 6, 7, 6)},
		"most below, twice":      {sum(5, 2, 13, 7, 6)},
		"least most":             {sum(5, 1, 0, 0, leastInt)},
		"greatest most":          {sum(5, 1, 1, 0, mostInt)},
		"most around":            {sum(5, 4, 0, 0, 1<<62)},
		"all below":              {sum(5, 1, 2, 3, 10)},
		"all below, more":        {sum(5, 4, 11, 3, 10)},
		"all below, most count":  {sum(5, 100, 25499, 255, 255)},
		"all below 0":            {sum(5, 1, -1, 0, 10)},
		"all below, last":        {good, sum(6, 2, 5, 3, 10)},
		"all above":              {sum(5, 1, 5, 0, 4)},
		"all above, more":        {sum(5, 4, 41, 3, 10)},
		"all above, most count":  {sum(5, 100, 25501, 0, 255)},
		"all above, first":       {sum(4, 2, 21, 3, 10), good},
		"all above 0":            {sum(5, 100, 1, 0, 0)},
		"least all":              {sum(5, 100, leastInt, 0, 255)},
		"greatest all":           {sum(5, 100, mostInt, 0, 255)},
	}
}

// mergeByHand returns the sums of two lists, key by key, and whether there are
// not too many, nor too many values.
func mergeByHand(a []impl.Sum, b []impl.Sum) ([]impl.Sum, bool) {
	var merged []impl.Sum
	ok := true
	for key := range impl.MaxByte + 1 {
		var of []impl.Sum
		for _, x := range slices.Concat(a, b) {
			if x.Key == key {
				of = append(of, x)
			}
		}
		if len(of) == 0 {
			continue
		}
		x := of[0]
		for _, y := range of[1:] {
			x.Count += y.Count
			x.All += y.All
			if y.Least < x.Least {
				x.Least = y.Least
			}
			if y.Most > x.Most {
				x.Most = y.Most
			}
		}
		ok = ok && x.Count <= 100
		merged = append(merged, x)
	}
	return merged, ok && len(merged) <= 8
}

// sumOfKey returns the one of sums with a key, and whether there is one.
func sumOfKey(list []impl.Sum, key int) (impl.Sum, bool) {
	place := slices.IndexFunc(list, func(x impl.Sum) bool { return x.Key == key })
	if place < 0 {
		return impl.Sum{}, false
	}
	return list[place], true
}

// topByHand returns the keys with the greatest sums: again and again the first
// one of those that are left.
func topByHand(list []impl.Sum, many int) []int {
	list = slices.Clone(list)
	var keys []int
	for len(keys) < many && len(list) > 0 {
		top := 0
		for i, x := range list {
			if x.All > list[top].All {
				top = i
			}
		}
		keys = append(keys, list[top].Key)
		list = slices.Delete(list, top, top+1)
	}
	return keys
}

// wantMerged reports an error if two lists have other sums together.
func wantMerged(t *testing.T, what string, a []impl.Sum, b []impl.Sum, want []impl.Sum) {
	t.Helper()
	if merged, ok := impl.MergeSums(a, b); !ok || !slices.Equal(merged, want) {
		t.Errorf("%s: MergeSums of %v and %v = %v, %t, not %v", what, a, b, merged, ok, want)
	}
}

// wantNotMerged reports an error if two lists have sums together.
func wantNotMerged(t *testing.T, what string, a []impl.Sum, b []impl.Sum) {
	t.Helper()
	if merged, ok := impl.MergeSums(a, b); ok || merged != nil {
		t.Errorf("%s: MergeSums of %v and %v = %v, %t", what, a, b, merged, ok)
	}
}

// wantNotAdded reports an error if a value is added.
func wantNotAdded(t *testing.T, what string, list []impl.Sum, key int, value int) {
	t.Helper()
	if added, ok := impl.AddValue(list, key, value); ok || added != nil {
		t.Errorf("%s: AddValue of %v, %d, %d = %v, %t", what, list, key, value, added, ok)
	}
}

func TestInvalidSums(t *testing.T) {
	for name, list := range invalidSums() {
		if impl.ValidSums(list) {
			t.Errorf("%s: %v is valid", name, list)
		}
		for _, other := range [][]impl.Sum{nil, sums(sum(5, 1, 1, 1, 1)), sums(sum(250, 1, 1, 1, 1)), equalSums(0, 8, 1, 1), list} {
			wantNotMerged(t, name, list, other)
			wantNotMerged(t, name, other, list)
		}
		for _, key := range []int{0, 4, 5, 6, 255, -1, 256, leastInt, mostInt} {
			for _, value := range []int{0, 1, 255, -1, 256} {
				wantNotAdded(t, name, list, key, value)
			}
			if n, ok := impl.MeanOf(list, key); ok || n != 0 {
				t.Errorf("%s: MeanOf %v, %d = %d, %t", name, list, key, n, ok)
			}
		}
		for many := -1; many <= impl.MaxSums+1; many++ {
			if keys := impl.TopKeys(list, many); keys != nil {
				t.Errorf("%s: TopKeys of %v, %d = %v", name, list, many, keys)
			}
		}
	}
}

// P91, P170: sums whose numbers are just allowed.
func TestValidSums(t *testing.T) {
	for _, list := range moreSums() {
		if !impl.ValidSums(list) {
			t.Errorf("%v is not valid", list)
		}
	}
	for name, list := range map[string][]impl.Sum{
		"none":               {},
		"least":              {sum(0, 1, 0, 0, 0)},
		"greatest":           {sum(255, 100, 25500, 255, 255)},
		"wide bounds":        {sum(7, 1, 5, 0, 255)},
		"least of many":      {sum(7, 100, 0, 0, 255)},
		"greatest of many":   {sum(7, 100, 25500, 0, 255)},
		"keys in a row":      {sum(7, 1, 0, 0, 0), sum(8, 1, 0, 0, 0), sum(9, 1, 0, 0, 0)},
		"keys far apart":     {sum(0, 1, 9, 9, 9), sum(255, 1, 0, 0, 0)},
		"most":               equalSums(0, 8, 100, 255),
		"most, last keys":    equalSums(248, 8, 100, 0),
		"sums that all fall": {sum(1, 9, 90, 10, 10), sum(2, 8, 40, 5, 5), sum(3, 1, 0, 0, 0)},
	} {
		if !impl.ValidSums(list) {
			t.Errorf("%s: %v is not valid", name, list)
		}
	}
}

// P91: small numbers near the limits are held against the rules.
func TestSumsAreValidByAllNumbers(t *testing.T) {
	for _, count := range []int{-1, 0, 1, 2, 3, 99, 100, 101} {
		for _, least := range []int{-1, 0, 1, 2, 254, 255, 256} {
			for _, most := range []int{-1, 0, 1, 2, 254, 255, 256} {
				for _, all := range []int{-1, 0, 1, 2, 3, count*least - 1, count * least, count*most - 1, count * most, count*most + 1} {
					want := count >= 1 && count <= 100 && least >= 0 && most <= 255 && most >= least && all >= count*least && all <= count*most
					if list := sums(sum(9, count, all, least, most)); impl.ValidSums(list) != want {
						t.Errorf("ValidSums of %v = %t", list, !want)
					}
				}
			}
		}
	}
	for first := -2; first <= 257; first++ {
		for second := -2; second <= 257; second++ {
			want := first >= 0 && first < second && second <= 255
			if list := sums(sum(first, 1, 1, 1, 1), sum(second, 1, 1, 1, 1)); impl.ValidSums(list) != want {
				t.Errorf("ValidSums of %v = %t", list, !want)
			}
		}
	}
}

// P91.
func TestSumsCanBeLeftOut(t *testing.T) {
	for _, list := range sumLists() {
		for i := range list {
			if fewer := slices.Delete(slices.Clone(list), i, i+1); !impl.ValidSums(fewer) {
				t.Errorf("%v is not valid, but %v is", fewer, list)
			}
		}
	}
}

// P92, P93, P94: sums of two lists, written by hand.
func TestMergedSumsByHand(t *testing.T) {
	x, y, z := sum(3, 1, 200, 200, 200), sum(5, 2, 13, 3, 10), sum(9, 4, 8, 1, 3)
	for name, c := range map[string]struct {
		a, b, want []impl.Sum
	}{
		"none":                    {nil, nil, nil},
		"one and none":            {sums(x), nil, sums(x)},
		"all and none":            {sums(x, y, z), nil, sums(x, y, z)},
		"one before":              {sums(x), sums(y), sums(x, y)},
		"one between":             {sums(x, z), sums(y), sums(x, y, z)},
		"one behind":              {sums(x, y), sums(z), sums(x, y, z)},
		"the same":                {sums(y), sums(y), sums(sum(5, 4, 26, 3, 10))},
		"the same three":          {sums(x, y, z), sums(x, y, z), sums(sum(3, 2, 400, 200, 200), sum(5, 4, 26, 3, 10), sum(9, 8, 16, 1, 3))},
		"less":                    {sums(y), sums(sum(5, 1, 1, 1, 1)), sums(sum(5, 3, 14, 1, 10))},
		"more":                    {sums(y), sums(sum(5, 1, 20, 20, 20)), sums(sum(5, 3, 33, 3, 20))},
		"between":                 {sums(y), sums(sum(5, 1, 7, 7, 7)), sums(sum(5, 3, 20, 3, 10))},
		"less and more":           {sums(y), sums(sum(5, 2, 21, 1, 20)), sums(sum(5, 4, 34, 1, 20))},
		"0":                       {sums(y), sums(sum(5, 1, 0, 0, 0)), sums(sum(5, 3, 13, 0, 10))},
		"255":                     {sums(y), sums(sum(5, 1, 255, 255, 255)), sums(sum(5, 3, 268, 3, 255))},
		"some the same":           {sums(x, y), sums(y, z), sums(x, sum(5, 4, 26, 3, 10), z)},
		"bounds that nobody has":  {sums(sum(5, 1, 4, 0, 9)), sums(sum(5, 1, 5, 1, 12)), sums(sum(5, 2, 9, 0, 12))},
		"as many values as may":   {sums(sum(5, 50, 100, 2, 2)), sums(sum(5, 50, 50, 1, 1)), sums(sum(5, 100, 150, 1, 2))},
		"nearly all, and one":     {sums(sum(5, 99, 25245, 255, 255)), sums(sum(5, 1, 255, 255, 255)), sums(sum(5, 100, 25500, 255, 255))},
		"as many keys as may":     {equalSums(0, 4, 1, 7), equalSums(4, 4, 1, 7), equalSums(0, 8, 1, 7)},
		"seven and one":           {equalSums(249, 7, 3, 7), equalSums(248, 1, 3, 7), equalSums(248, 8, 3, 7)},
		"eight and eight of them": {equalSums(0, 8, 50, 7), equalSums(0, 8, 50, 7), equalSums(0, 8, 100, 7)},
	} {
		wantMerged(t, name, c.a, c.b, c.want)
		wantMerged(t, name, c.b, c.a, c.want)
	}
}

func TestSumsThatAreTooMuchAreNotMerged(t *testing.T) {
	for name, c := range map[string]struct {
		a, b []impl.Sum
	}{
		"too many values":           {sums(sum(5, 50, 100, 2, 2)), sums(sum(5, 51, 51, 1, 1))},
		"one value too many":        {sums(sum(5, 100, 100, 1, 1)), sums(sum(5, 1, 1, 1, 1))},
		"far too many values":       {sums(sum(5, 100, 100, 1, 1)), sums(sum(5, 100, 0, 0, 0))},
		"too many values, first":    {sums(sum(5, 100, 100, 1, 1), sum(7, 1, 1, 1, 1)), sums(sum(5, 1, 1, 1, 1), sum(6, 1, 1, 1, 1))},
		"too many values, last":     {sums(sum(4, 1, 1, 1, 1), sum(5, 60, 60, 1, 1)), sums(sum(5, 41, 41, 1, 1))},
		"one key too many":          {equalSums(0, 8, 1, 1), equalSums(8, 1, 1, 1)},
		"one key too many, before":  {equalSums(1, 8, 1, 1), equalSums(0, 1, 1, 1)},
		"one key too many, of some": {equalSums(0, 5, 1, 1), equalSums(4, 5, 1, 1)},
		"far too many keys":         {equalSums(0, 8, 1, 1), equalSums(100, 8, 1, 1)},
		"too many of both":          {equalSums(0, 8, 100, 1), equalSums(1, 8, 100, 1)},
	} {
		if !impl.ValidSums(c.a) || !impl.ValidSums(c.b) {
			t.Errorf("%s: %v or %v is not valid", name, c.a, c.b)
		}
		wantNotMerged(t, name, c.a, c.b)
		wantNotMerged(t, name, c.b, c.a)
	}
}

// P92, P93, P94.
func TestMergedSumsHaveAllValues(t *testing.T) {
	for _, a := range sumLists() {
		for _, b := range sumLists() {
			want, ok := mergeByHand(a, b)
			if !ok {
				wantNotMerged(t, "too much", a, b)
				continue
			}
			wantMerged(t, "all values", a, b, want)
			merged, _ := impl.MergeSums(a, b)
			if !impl.ValidSums(merged) {
				t.Errorf("MergeSums of %v and %v = %v, which is not valid", a, b, merged)
			}
			other, ok := impl.MergeSums(b, a)
			if !ok || !slices.Equal(other, merged) {
				t.Errorf("MergeSums of %v and %v = %v, and in the other order %v", a, b, merged, other)
			}
			for _, x := range merged {
				y, _ := sumOfKey(a, x.Key)
				z, _ := sumOfKey(b, x.Key)
				if x.Count != y.Count+z.Count || x.All != y.All+z.All {
					t.Errorf("MergeSums has %v of %v and %v", x, y, z)
				}
			}
			for _, y := range slices.Concat(a, b) {
				if x, ok := sumOfKey(merged, y.Key); !ok || x.Least > y.Least || x.Most < y.Most {
					t.Errorf("MergeSums of %v and %v has %v, %t for %v", a, b, x, ok, y)
				}
			}
		}
	}
}

// P93.
func TestNothingChangesNoSums(t *testing.T) {
	for _, list := range moreSums() {
		for _, none := range [][]impl.Sum{nil, {}, spare([]impl.Sum{}), invalidSums()["key above"][:0]} {
			wantMerged(t, "nothing", list, none, list)
			wantMerged(t, "nothing", none, list, list)
		}
	}
}

// P95, P170: added values, written by hand.
func TestAddedValuesByHand(t *testing.T) {
	x, y := sum(3, 1, 200, 200, 200), sum(5, 2, 13, 3, 10)
	for name, c := range map[string]struct {
		list       []impl.Sum
		key, value int
		want       []impl.Sum
	}{
		"to none":             {nil, 5, 10, sums(sum(5, 1, 10, 10, 10))},
		"least to none":       {nil, 0, 0, sums(sum(0, 1, 0, 0, 0))},
		"greatest to none":    {nil, 255, 255, sums(sum(255, 1, 255, 255, 255))},
		"before":              {sums(y), 3, 200, sums(x, y)},
		"behind":              {sums(x), 4, 1, sums(x, sum(4, 1, 1, 1, 1))},
		"between":             {sums(x, y), 4, 0, sums(x, sum(4, 1, 0, 0, 0), y)},
		"less":                {sums(x, y), 5, 1, sums(x, sum(5, 3, 14, 1, 10))},
		"0":                   {sums(x, y), 5, 0, sums(x, sum(5, 3, 13, 0, 10))},
		"more":                {sums(x, y), 5, 11, sums(x, sum(5, 3, 24, 3, 11))},
		"255":                 {sums(x, y), 5, 255, sums(x, sum(5, 3, 268, 3, 255))},
		"within":              {sums(x, y), 5, 7, sums(x, sum(5, 3, 20, 3, 10))},
		"the same":            {sums(x, y), 3, 200, sums(sum(3, 2, 400, 200, 200), y)},
		"the hundredth":       {sums(sum(9, 99, 99, 1, 1)), 9, 2, sums(sum(9, 100, 101, 1, 2))},
		"the hundredth, 255":  {sums(sum(9, 99, 25245, 255, 255)), 9, 255, sums(sum(9, 100, 25500, 255, 255))},
		"the eighth":          {equalSums(0, 7, 1, 6), 7, 6, equalSums(0, 8, 1, 6)},
		"the eighth, first":   {equalSums(1, 7, 1, 6), 0, 6, equalSums(0, 8, 1, 6)},
		"to one of eight":     {equalSums(0, 8, 1, 6), 0, 6, append(equalSums(0, 1, 2, 6), equalSums(1, 7, 1, 6)...)},
		"to the last of them": {equalSums(0, 8, 1, 6), 7, 6, append(equalSums(0, 7, 1, 6), equalSums(7, 1, 2, 6)...)},
		"beside the hundredth": {sums(sum(9, 100, 100, 1, 1), sum(10, 1, 1, 1, 1)), 10, 1,
			sums(sum(9, 100, 100, 1, 1), sum(10, 2, 2, 1, 1))},
	} {
		if list, ok := impl.AddValue(c.list, c.key, c.value); !ok || !slices.Equal(list, c.want) {
			t.Errorf("%s: AddValue of %v, %d, %d = %v, %t", name, c.list, c.key, c.value, list, ok)
		}
	}
}

func TestInvalidValuesAreNotAdded(t *testing.T) {
	others := []int{-1, -2, -255, 256, 257, 511, leastInt, mostInt}
	for _, list := range sumLists() {
		for _, other := range others {
			for _, n := range []int{0, 1, 5, 100, 255} {
				wantNotAdded(t, "key", list, other, n)
				wantNotAdded(t, "value", list, n, other)
			}
			wantNotAdded(t, "both", list, other, other)
		}
	}
	for _, value := range []int{0, 1, 255} {
		wantNotAdded(t, "too many values", sums(sum(9, 100, 100, 1, 1)), 9, value)
		wantNotAdded(t, "too many values of one", sums(sum(8, 1, 1, 1, 1), sum(9, 100, 100, 1, 1)), 9, value)
		wantNotAdded(t, "too many keys", equalSums(1, 8, 1, 1), 0, value)
		wantNotAdded(t, "too many keys", equalSums(0, 8, 1, 1), 8, value)
		wantNotAdded(t, "too many keys", equalSums(0, 8, 1, 1), 255, value)
	}
}

// P95, P170.
func TestAddedValuesAreInTheSum(t *testing.T) {
	for _, list := range moreSums() {
		keys := []int{0, 7, 100, 254, 255}
		for _, x := range list {
			keys = append(keys, x.Key)
		}
		for _, key := range keys {
			for _, value := range []int{0, 1, 9, 128, 255} {
				single := sums(sumOfValues(key, value))
				want, fits := mergeByHand(list, single)
				if !fits {
					wantNotAdded(t, "too much", list, key, value)
					continue
				}
				added, ok := impl.AddValue(list, key, value)
				if !ok || !slices.Equal(added, want) {
					t.Fatalf("AddValue of %v, %d, %d = %v, %t", list, key, value, added, ok)
				}
				before, _ := sumOfKey(list, key)
				x, _ := sumOfKey(added, key)
				if x.Count != before.Count+1 || x.All != before.All+value {
					t.Errorf("AddValue of %v, %d, %d = %v", list, key, value, added)
				}
				wantMerged(t, "a value", list, single, added)
			}
		}
	}
}

// P96.
func TestTheOrderOfValuesDoesNotMatter(t *testing.T) {
	addBoth := func(list []impl.Sum, key int, value int, other int, more int) ([]impl.Sum, bool) {
		list, ok := impl.AddValue(list, key, value)
		if !ok {
			return nil, false
		}
		return impl.AddValue(list, other, more)
	}
	d := dice{state: 13}
	for _, list := range sumLists() {
		for range 30 {
			key, value, other, more := d.roll(12), d.roll(256), d.roll(12), d.roll(256)
			first, ok := addBoth(list, key, value, other, more)
			second, alsoOk := addBoth(list, other, more, key, value)
			if ok != alsoOk || !slices.Equal(first, second) {
				t.Errorf("AddValue of %v, %d, %d and of %d, %d = %v, and in the other order %v", list, key, value, other, more, first, second)
			}
		}
	}
}

// P170: of all values.
func TestOneValueIsASum(t *testing.T) {
	for key := range impl.MaxByte + 1 {
		for value := range impl.MaxByte + 1 {
			single := sums(sum(key, 1, value, value, value))
			added, ok := impl.AddValue(nil, key, value)
			if !impl.ValidSums(single) || !ok || !slices.Equal(added, single) {
				t.Errorf("AddValue of %d, %d to none = %v, %t", key, value, added, ok)
			}
		}
	}
}

// P97, P98, P171: means, written by hand.
func TestMeansByHand(t *testing.T) {
	list := sums(sum(0, 3, 8, 2, 4), sum(5, 2, 13, 3, 10), sum(6, 100, 25500, 255, 255), sum(9, 100, 99, 0, 1), sum(200, 7, 0, 0, 9), sum(255, 1, 4, 0, 9))
	for key := -2; key <= 257; key++ {
		want, isKey := map[int]int{0: 2, 5: 6, 6: 255, 9: 0, 200: 0, 255: 4}[key]
		if n, ok := impl.MeanOf(list, key); n != want || ok != isKey {
			t.Errorf("MeanOf %v, %d = %d, %t", list, key, n, ok)
		}
	}
	for _, key := range []int{leastInt, mostInt} {
		if n, ok := impl.MeanOf(list, key); n != 0 || ok {
			t.Errorf("MeanOf %v, %d = %d, %t", list, key, n, ok)
		}
	}
}

// P97, P98.
func TestMeansAreBetween(t *testing.T) {
	for _, list := range moreSums() {
		for key := -1; key <= impl.MaxByte+1; key++ {
			n, ok := impl.MeanOf(list, key)
			x, isKey := sumOfKey(list, key)
			if ok != isKey || !ok && n != 0 {
				t.Errorf("MeanOf %v, %d = %d, %t", list, key, n, ok)
			}
			if ok && (n < x.Least || n > x.Most || n*x.Count > x.All || (n+1)*x.Count <= x.All) {
				t.Errorf("MeanOf %v, %d = %d", list, key, n)
			}
		}
	}
}

// P171.
func TestMeansOfEqualValues(t *testing.T) {
	for value := range impl.MaxByte + 1 {
		var list []impl.Sum
		for count := 1; count <= impl.MaxCount; count++ {
			added, ok := impl.AddValue(list, 7, value)
			if !ok {
				t.Fatalf("AddValue of %v, 7, %d fails", list, value)
			}
			list = added
			if n, ok := impl.MeanOf(list, 7); !ok || n != value {
				t.Errorf("MeanOf %v, 7 = %d, %t", list, n, ok)
			}
		}
		wantNotAdded(t, "too many values", list, 7, value)
	}
}

// P99, P100: keys with the greatest sums, written by hand.
func TestTopKeysByHand(t *testing.T) {
	for name, c := range map[string]struct {
		list []impl.Sum
		keys []int
	}{
		"none":                    {nil, nil},
		"one":                     {sums(sum(7, 1, 0, 0, 0)), []int{7}},
		"falling":                 {sums(sum(1, 1, 9, 9, 9), sum(2, 1, 8, 8, 8), sum(3, 1, 7, 7, 7)), []int{1, 2, 3}},
		"ascending":               {sums(sum(1, 1, 7, 7, 7), sum(2, 1, 8, 8, 8), sum(3, 1, 9, 9, 9)), []int{3, 2, 1}},
		"greatest between":        {sums(sum(1, 1, 7, 7, 7), sum(2, 1, 9, 9, 9), sum(3, 1, 8, 8, 8)), []int{2, 3, 1}},
		"equal":                   {sums(sum(4, 1, 7, 7, 7), sum(9, 1, 7, 7, 7)), []int{4, 9}},
		"equal, of other counts":  {sums(sum(4, 1, 8, 8, 8), sum(9, 4, 8, 2, 2), sum(11, 2, 8, 0, 9)), []int{4, 9, 11}},
		"equal 0":                 {equalSums(0, 8, 3, 0), upTo(8)},
		"equal greatest":          {equalSums(248, 8, 100, 255), []int{248, 249, 250, 251, 252, 253, 254, 255}},
		"equal behind a greater":  {sums(sum(1, 1, 7, 7, 7), sum(2, 1, 7, 7, 7), sum(3, 1, 9, 9, 9)), []int{3, 1, 2}},
		"equal before a less":     {sums(sum(1, 1, 6, 6, 6), sum(2, 1, 7, 7, 7), sum(3, 1, 7, 7, 7)), []int{2, 3, 1}},
		"equal, apart":            {sums(sum(1, 1, 7, 7, 7), sum(2, 1, 9, 9, 9), sum(3, 1, 7, 7, 7), sum(4, 1, 9, 9, 9)), []int{2, 4, 1, 3}},
		"not by count":            {sums(sum(1, 100, 100, 1, 1), sum(2, 1, 101, 101, 101)), []int{2, 1}},
		"not by mean":             {sums(sum(1, 1, 255, 255, 255), sum(2, 100, 300, 3, 3)), []int{2, 1}},
		"not by most":             {sums(sum(1, 2, 9, 0, 255), sum(2, 2, 10, 5, 5)), []int{2, 1}},
		"not by least":            {sums(sum(1, 2, 100, 50, 50), sum(2, 2, 101, 0, 101)), []int{2, 1}},
		"as many as there may be": {append(equalSums(0, 4, 2, 5), equalSums(10, 4, 5, 2)...), []int{0, 1, 2, 3, 10, 11, 12, 13}},
	} {
		for many := range impl.MaxSums + 1 {
			want := c.keys[:min(many, len(c.keys))]
			if keys := impl.TopKeys(c.list, many); !slices.Equal(keys, want) {
				t.Errorf("%s: TopKeys of %v, %d = %v", name, c.list, many, keys)
			}
		}
	}
}

// P99, P100.
func TestTopKeysHaveTheGreatestSums(t *testing.T) {
	for _, list := range moreSums() {
		var before []int
		for many := range impl.MaxSums + 1 {
			keys := impl.TopKeys(list, many)
			if len(keys) != min(many, len(list)) || !slices.Equal(keys, topByHand(list, many)) {
				t.Errorf("TopKeys of %v, %d = %v", list, many, keys)
			}
			if len(firsts(keys)) != len(keys) || !startsWith(keys, before) {
				t.Errorf("TopKeys of %v, %d = %v, and 1 less %v", list, many, keys, before)
			}
			for _, key := range keys {
				top, ok := sumOfKey(list, key)
				for _, x := range list {
					if !ok || x.All > top.All && !slices.Contains(keys, x.Key) {
						t.Errorf("TopKeys of %v, %d = %v, and not %d", list, many, keys, x.Key)
					}
				}
			}
			before = keys
		}
	}
}

func TestInvalidNumbersOfTopKeys(t *testing.T) {
	for _, list := range sumLists() {
		for _, many := range []int{-1, -2, -8, 9, 10, 100, leastInt, mostInt} {
			if keys := impl.TopKeys(list, many); keys != nil {
				t.Errorf("TopKeys of %v, %d = %v", list, many, keys)
			}
		}
	}
}

// P93, P98, P170: a slice without elements is the same as none, whatever
// memory it has.
func TestEmptyListsHaveNoSums(t *testing.T) {
	for _, list := range [][]impl.Sum{nil, {}, spare([]impl.Sum{}), equalSums(0, 9, 1, 1)[:0], sums(impl.Sum{})[:0]} {
		if !impl.ValidSums(list) {
			t.Errorf("%v is not valid", list)
		}
		wantMerged(t, "none", list, list, nil)
		if added, ok := impl.AddValue(list, 5, 10); !ok || !slices.Equal(added, sums(sum(5, 1, 10, 10, 10))) {
			t.Errorf("AddValue to none = %v, %t", added, ok)
		}
		if n, ok := impl.MeanOf(list, 0); ok || n != 0 {
			t.Errorf("MeanOf none = %d, %t", n, ok)
		}
		for many := range impl.MaxSums + 1 {
			if keys := impl.TopKeys(list, many); len(keys) != 0 {
				t.Errorf("TopKeys of none = %v", keys)
			}
		}
	}
}

func TestSumsShareNoMemory(t *testing.T) {
	lists := [][]impl.Sum{nil, sums(sum(5, 2, 13, 3, 10)), equalSums(2, 4, 3, 9), sums(sum(1, 1, 1, 1, 1), sum(3, 5, 10, 1, 4), sum(9, 1, 255, 255, 255))}
	for _, all := range lists {
		for _, more := range lists {
			a, b := spare(all), spare(more)
			merged, _ := mergeByHand(all, more)
			added, _ := mergeByHand(all, sums(sum(5, 1, 7, 7, 7)))
			for range 2 {
				results := [][]impl.Sum{nil, nil}
				results[0], _ = impl.MergeSums(a, b)
				results[1], _ = impl.AddValue(a, 5, 7)
				top := impl.TopKeys(a, 8)
				impl.MeanOf(a, 5)
				if !slices.Equal(results[0], merged) || !slices.Equal(results[1], added) || !slices.Equal(top, topByHand(all, 8)) {
					t.Errorf("a result is kept: %v, %v", results, top)
				}
				overwrite(results[0], sum(77, 77, 77, 77, 77))
				overwrite(results[1], sum(77, 77, 77, 77, 77))
				overwrite(top, 77)
				if !slices.Equal(a, all) || !slices.Equal(b, more) || !zeros(behind(a)) || !zeros(behind(b)) {
					t.Fatalf("an argument is changed: %v, %v", a, b)
				}
			}
		}
	}
}
