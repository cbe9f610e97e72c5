package tests

import (
	"slices"
	"testing"

	"loop.example/telemetryagent/impl"
)

// bucket returns a bucket.
func bucket(size int, rate int, level int, last int) impl.Bucket {
	return impl.Bucket{Size: size, Rate: rate, Level: level, Last: last}
}

// eachBucket calls a function with buckets of small and great sizes, empty
// and full ones and others, up to the last time.
func eachBucket(f func(b impl.Bucket)) {
	for _, size := range []int{1, 2, 3, 10, 21, 199, 200} {
		for _, rate := range []int{1, 2, 3, 7, 19, 20} {
			levels := []int{0, 1, size / 2, size - 1, size}
			slices.Sort(levels)
			for _, level := range slices.Compact(levels) {
				for _, last := range []int{0, 1, 500, 799, 800, 801, 990, 999, 1000} {
					f(bucket(size, rate, level, last))
				}
			}
		}
	}
}

// timesOf returns times at which a bucket can be asked: many soon after Last,
// those when it is full, and the last ones.
func timesOf(b impl.Bucket) []int {
	list := []int{b.Last + b.Size - 1, b.Last + b.Size, b.Last + b.Size + 1, 500, 998, 999, 1000}
	for n := range 13 {
		list = append(list, b.Last+n)
	}
	slices.Sort(list)
	isOther := func(now int) bool { return now < b.Last || now > 1000 }
	return slices.DeleteFunc(slices.Compact(list), isOther)
}

// levelByHand returns what is in a bucket at a time: it is filled time by
// time, and runs over when it is full.
func levelByHand(b impl.Bucket, now int) int {
	level := b.Level
	for t := b.Last; t < now && level < b.Size; t++ {
		for n := 0; n < b.Rate && level < b.Size; n++ {
			level++
		}
	}
	return level
}

// readyByHand returns the first time at which some is in a bucket.
func readyByHand(b impl.Bucket, some int) int {
	now := b.Last
	for levelByHand(b, now) < some {
		now++
	}
	return now
}

// passByHand returns which sizes pass a bucket, and the bucket after all.
func passByHand(b impl.Bucket, sizes []int, at []int) ([]int, impl.Bucket) {
	var passed []int
	for i, size := range sizes {
		b = bucket(b.Size, b.Rate, levelByHand(b, at[i]), at[i])
		if size > b.Level {
			passed = append(passed, 0)
		} else {
			passed = append(passed, 1)
			b.Level -= size
		}
	}
	return passed, b
}

// wantNothingTaken reports an error if some is taken from a bucket at a time.
func wantNothingTaken(t *testing.T, what string, b impl.Bucket, some int, now int) {
	t.Helper()
	if c, ok := impl.TakeFrom(b, some, now); ok || c != (impl.Bucket{}) {
		t.Errorf("%s: TakeFrom of %v, %d, %d = %v, %t", what, b, some, now, c, ok)
	}
}

// wantNoBucket reports an error if a bucket is valid.
func wantNoBucket(t *testing.T, what string, b impl.Bucket) {
	t.Helper()
	if impl.ValidBucket(b) {
		t.Errorf("%s: %v is valid", what, b)
	}
	for _, n := range []int{0, 1, b.Last, b.Last + 1, b.Level, b.Size, 500, 999, 1000, 1001, -1, leastInt, mostInt} {
		if level := impl.LevelAt(b, n); level != -1 {
			t.Errorf("%s: LevelAt of %v, %d = %d", what, b, n, level)
		}
		if at := impl.ReadyAt(b, n); at != -1 {
			t.Errorf("%s: ReadyAt of %v, %d = %d", what, b, n, at)
		}
		for _, some := range []int{0, 1, b.Level, -1, leastInt, mostInt} {
			wantNothingTaken(t, what, b, some, n)
		}
		wantNoPasses(t, what, b, []int{1}, []int{n})
		wantNoPasses(t, what, b, []int{1, 20}, []int{n, n})
	}
	wantNoPasses(t, what, b, nil, nil)
	wantNoPasses(t, what, b, []int{}, []int{})
}

// wantNoPasses reports an error if sizes are asked of a bucket at times.
func wantNoPasses(t *testing.T, what string, b impl.Bucket, sizes []int, at []int) {
	t.Helper()
	if passed := impl.PassAll(b, sizes, at); passed != nil {
		t.Errorf("%s: PassAll of %v, %v, %v = %v", what, b, sizes, at, passed)
	}
}

func TestInvalidBuckets(t *testing.T) {
	for what, b := range map[string]impl.Bucket{
		"nothing at all":         {},
		"size 0":                 bucket(0, 1, 0, 0),
		"size below":             bucket(-1, 1, 0, 0),
		"size below, level, too": bucket(-1, 1, -1, 0),
		"size above":             bucket(201, 1, 5, 0),
		"size above, full":       bucket(201, 1, 201, 0),
		"least size":             bucket(leastInt, 1, 0, 0),
		"greatest size":          bucket(mostInt, 1, 5, 0),
		"rate 0":                 bucket(10, 0, 5, 0),
		"rate 0, full":           bucket(10, 0, 10, 0),
		"rate below":             bucket(10, -1, 5, 0),
		"rate above":             bucket(10, 21, 5, 0),
		"least rate":             bucket(10, leastInt, 5, 0),
		"greatest rate":          bucket(10, mostInt, 5, 0),
		"level below":            bucket(10, 1, -1, 0),
		"level above":            bucket(10, 1, 11, 0),
		"level above, greatest":  bucket(200, 20, 201, 1000),
		"level above, least":     bucket(1, 1, 2, 0),
		"least level":            bucket(10, 1, leastInt, 0),
		"greatest level":         bucket(10, 1, mostInt, 0),
		"last below":             bucket(10, 1, 5, -1),
		"last above":             bucket(10, 1, 5, 1001),
		"last far above":         bucket(10, 1, 5, 1100),
		"least last":             bucket(10, 1, 5, leastInt),
		"greatest last":          bucket(10, 1, 5, mostInt),
		"all below":              bucket(-1, -1, -1, -1),
		"all above":              bucket(201, 21, 202, 1001),
	} {
		wantNoBucket(t, what, b)
	}
}

// P101: buckets are valid by all of their numbers.
func TestValidBuckets(t *testing.T) {
	sizes := []int{leastInt, -1, 0, 1, 2, 100, 199, 200, 201, mostInt}
	rates := []int{leastInt, -1, 0, 1, 2, 19, 20, 21, mostInt}
	lasts := []int{leastInt, -1, 0, 1, 500, 999, 1000, 1001, mostInt}
	for _, size := range sizes {
		for _, rate := range rates {
			for _, last := range lasts {
				for _, level := range join(sizes, []int{size - 1, size, size + 1}) {
					b := bucket(size, rate, level, last)
					inLimits := size >= 1 && size <= 200 && rate >= 1 && rate <= 20 && last >= 0 && last <= 1000
					if want := inLimits && level >= 0 && level <= size; impl.ValidBucket(b) != want {
						t.Errorf("ValidBucket of %v = %t", b, !want)
					}
				}
			}
		}
	}
}

// P101: all valid buckets can be full, and empty.
func TestBucketsCanBeFull(t *testing.T) {
	eachBucket(func(b impl.Bucket) {
		full, empty := bucket(b.Size, b.Rate, b.Size, b.Last), bucket(b.Size, b.Rate, 0, b.Last)
		if !impl.ValidBucket(b) || !impl.ValidBucket(full) || !impl.ValidBucket(empty) {
			t.Errorf("%v is not valid, or full or empty not", b)
		}
		for _, now := range timesOf(b) {
			if n := impl.LevelAt(full, now); n != b.Size {
				t.Errorf("LevelAt of %v, %d = %d", full, now, n)
			}
			c, ok := impl.TakeFrom(full, b.Size, now)
			if !ok || c != bucket(b.Size, b.Rate, 0, now) {
				t.Errorf("TakeFrom of all of %v at %d = %v, %t", full, now, c, ok)
			}
			wantNothingTaken(t, "more than all", full, b.Size+1, now)
		}
		for some := range b.Size + 1 {
			if at := impl.ReadyAt(full, some); at != b.Last {
				t.Errorf("ReadyAt of %v, %d = %d", full, some, at)
			}
		}
	})
}

// P102, P172: what is in a bucket, written by hand.
func TestLevelsByHand(t *testing.T) {
	b := bucket(10, 2, 3, 100)
	for now, want := range map[int]int{
		100: 3, 101: 5, 102: 7, 103: 9, 104: 10, 105: 10, 110: 10, 1000: 10,
		99: -1, 98: -1, 0: -1, -1: -1, 1001: -1, 1002: -1, leastInt: -1, mostInt: -1,
	} {
		if n := impl.LevelAt(b, now); n != want {
			t.Errorf("LevelAt of %v, %d = %d, not %d", b, now, n, want)
		}
	}
	for _, c := range []struct {
		b         impl.Bucket
		now, want int
	}{
		{bucket(1, 1, 0, 0), 0, 0},
		{bucket(1, 1, 0, 0), 1, 1},
		{bucket(1, 1, 0, 0), 2, 1},
		{bucket(1, 20, 0, 999), 1000, 1},
		{bucket(1, 20, 1, 1000), 1000, 1},
		{bucket(200, 1, 0, 800), 999, 199},
		{bucket(200, 1, 0, 800), 1000, 200},
		{bucket(200, 1, 0, 801), 1000, 199},
		{bucket(200, 1, 0, 0), 200, 200},
		{bucket(200, 1, 0, 0), 1000, 200},
		{bucket(200, 20, 0, 0), 9, 180},
		{bucket(200, 20, 0, 0), 10, 200},
		{bucket(200, 20, 1, 0), 9, 181},
		{bucket(200, 20, 19, 5), 14, 199},
		{bucket(200, 20, 200, 0), 1000, 200},
		{bucket(200, 19, 10, 0), 10, 200},
		{bucket(200, 19, 9, 0), 10, 199},
		{bucket(200, 7, 0, 0), 28, 196},
		{bucket(200, 7, 0, 0), 29, 200},
	} {
		if n := impl.LevelAt(c.b, c.now); n != c.want {
			t.Errorf("LevelAt of %v, %d = %d, not %d", c.b, c.now, n, c.want)
		}
	}
}

// P102, P172.
func TestBucketsFill(t *testing.T) {
	eachBucket(func(b impl.Bucket) {
		if n := impl.LevelAt(b, b.Last); n != b.Level {
			t.Errorf("LevelAt of %v, %d = %d", b, b.Last, n)
		}
		before := b.Level
		for _, now := range timesOf(b) {
			n := impl.LevelAt(b, now)
			if n != levelByHand(b, now) || n < before || n > b.Size {
				t.Errorf("LevelAt of %v, %d = %d, and before %d", b, now, n, before)
			}
			before = n
		}
		if full := b.Last + b.Size; full <= impl.MaxClock && impl.LevelAt(b, full) != b.Size {
			t.Errorf("LevelAt of %v, %d = %d", b, full, impl.LevelAt(b, full))
		}
		for _, now := range []int{-1, b.Last - 1, b.Last - 500, 1001, 1002, leastInt, mostInt} {
			if n := impl.LevelAt(b, now); n != -1 {
				t.Errorf("LevelAt of %v, %d = %d", b, now, n)
			}
		}
	})
}

// P103, P104: what is taken, written by hand.
func TestTakeFromByHand(t *testing.T) {
	for what, c := range map[string]struct {
		b         impl.Bucket
		some, now int
		want      impl.Bucket
	}{
		"nothing at once":      {bucket(10, 2, 3, 100), 0, 100, bucket(10, 2, 3, 100)},
		"nothing later":        {bucket(10, 2, 3, 100), 0, 102, bucket(10, 2, 7, 102)},
		"nothing of nothing":   {bucket(10, 2, 0, 100), 0, 100, bucket(10, 2, 0, 100)},
		"nothing when full":    {bucket(10, 2, 3, 100), 0, 200, bucket(10, 2, 10, 200)},
		"some at once":         {bucket(10, 2, 3, 100), 1, 100, bucket(10, 2, 2, 100)},
		"all at once":          {bucket(10, 2, 3, 100), 3, 100, bucket(10, 2, 0, 100)},
		"some later":           {bucket(10, 2, 3, 100), 6, 102, bucket(10, 2, 1, 102)},
		"all later":            {bucket(10, 2, 3, 100), 7, 102, bucket(10, 2, 0, 102)},
		"some when full":       {bucket(10, 2, 3, 100), 4, 104, bucket(10, 2, 6, 104)},
		"all when full":        {bucket(10, 2, 3, 100), 10, 104, bucket(10, 2, 0, 104)},
		"all of the least":     {bucket(1, 1, 0, 0), 1, 1, bucket(1, 1, 0, 1)},
		"all of the greatest":  {bucket(200, 20, 200, 0), 200, 0, bucket(200, 20, 0, 0)},
		"all at the last time": {bucket(200, 20, 0, 0), 200, 1000, bucket(200, 20, 0, 1000)},
		"last at the last":     {bucket(200, 20, 150, 1000), 149, 1000, bucket(200, 20, 1, 1000)},
	} {
		if d, ok := impl.TakeFrom(c.b, c.some, c.now); !ok || d != c.want {
			t.Errorf("%s: TakeFrom of %v, %d, %d = %v, %t", what, c.b, c.some, c.now, d, ok)
		}
	}
	b := bucket(10, 2, 3, 100)
	wantNothingTaken(t, "too much at once", b, 4, 100)
	wantNothingTaken(t, "too much later", b, 8, 102)
	wantNothingTaken(t, "too much when full", b, 11, 200)
	wantNothingTaken(t, "too early", b, 1, 99)
	wantNothingTaken(t, "nothing too early", b, 0, 99)
	wantNothingTaken(t, "too late", b, 1, 1001)
	wantNothingTaken(t, "nothing too late", b, 0, 1001)
	wantNothingTaken(t, "less than nothing", b, -1, 100)
	wantNothingTaken(t, "far less than nothing", b, -3, 102)
}

// P103, P104.
func TestTakenIsGone(t *testing.T) {
	eachBucket(func(b impl.Bucket) {
		for _, now := range timesOf(b) {
			level := levelByHand(b, now)
			for _, some := range []int{0, min(1, level), level / 3, level / 2, max(level-1, 0), level} {
				c, ok := impl.TakeFrom(b, some, now)
				if !ok || c != bucket(b.Size, b.Rate, level-some, now) || !impl.ValidBucket(c) {
					t.Errorf("TakeFrom of %v, %d, %d = %v, %t", b, some, now, c, ok)
				}
				if n := impl.LevelAt(c, now); n != impl.LevelAt(b, now)-some {
					t.Errorf("LevelAt of %v, %d = %d after TakeFrom of %v, %d", c, now, n, b, some)
				}
			}
			for _, some := range []int{level + 1, 201, 400, mostInt, -1, -200, leastInt} {
				wantNothingTaken(t, "too much or too little", b, some, now)
			}
		}
		for _, now := range []int{-1, b.Last - 1, 1001, leastInt, mostInt} {
			for _, some := range []int{0, 1, b.Level, -1, leastInt} {
				wantNothingTaken(t, "no time", b, some, now)
			}
		}
	})
}

// P103: nothing is taken at a time, and then the bucket is asked later.
func TestNothingTakenChangesNothing(t *testing.T) {
	eachBucket(func(b impl.Bucket) {
		list := timesOf(b)
		for i, now := range list {
			c, ok := impl.TakeFrom(b, 0, now)
			if !ok {
				t.Fatalf("TakeFrom of %v, 0, %d fails", b, now)
			}
			for _, later := range list[i:] {
				if n, m := impl.LevelAt(c, later), impl.LevelAt(b, later); n != m {
					t.Errorf("LevelAt of %v, %d = %d, and after nothing is taken at %d %d", b, later, m, now, n)
				}
			}
		}
	})
}

// P105.
func TestPartsCanBeTaken(t *testing.T) {
	eachBucket(func(b impl.Bucket) {
		for _, now := range timesOf(b) {
			level := impl.LevelAt(b, now)
			for _, some := range []int{level / 2, level} {
				all, ok := impl.TakeFrom(b, some, now)
				for part := 0; part <= some; part += 1 + some/7 {
					first, one := impl.TakeFrom(b, part, now)
					second, two := impl.TakeFrom(first, some-part, now)
					if !ok || !one || !two || second != all {
						t.Errorf("TakeFrom of %v, %d and the rest of %d, %d = %v, and of all %v", b, part, some, now, second, all)
					}
					wantNothingTaken(t, "too much in parts", first, level-part+1, now)
				}
			}
		}
	})
}

// P106, P107: when enough is in a bucket, written by hand.
func TestReadyAtByHand(t *testing.T) {
	for what, c := range map[string]struct {
		b    impl.Bucket
		some int
		want int
	}{
		"nothing":               {bucket(10, 2, 3, 100), 0, 100},
		"nothing of nothing":    {bucket(10, 2, 0, 100), 0, 100},
		"less than there is":    {bucket(10, 2, 3, 100), 2, 100},
		"as much as there is":   {bucket(10, 2, 3, 100), 3, 100},
		"1 more":                {bucket(10, 2, 3, 100), 4, 101},
		"2 more":                {bucket(10, 2, 3, 100), 5, 101},
		"3 more":                {bucket(10, 2, 3, 100), 6, 102},
		"all but 1":             {bucket(10, 2, 3, 100), 9, 103},
		"all":                   {bucket(10, 2, 3, 100), 10, 104},
		"too much":              {bucket(10, 2, 3, 100), 11, -1},
		"too little":            {bucket(10, 2, 3, 100), -1, -1},
		"at the rate 1":         {bucket(200, 1, 0, 0), 200, 200},
		"at the greatest rate":  {bucket(200, 20, 0, 0), 200, 10},
		"nearly at once":        {bucket(200, 20, 0, 0), 1, 1},
		"up to the rate":        {bucket(200, 20, 0, 0), 20, 1},
		"beyond the rate":       {bucket(200, 20, 0, 0), 21, 2},
		"the least bucket":      {bucket(1, 1, 0, 0), 1, 1},
		"a rate above the size": {bucket(1, 20, 0, 7), 1, 8},
		"at the last time":      {bucket(200, 1, 0, 800), 200, 1000},
		"behind the last time":  {bucket(200, 1, 0, 801), 200, 1001},
		"far behind it":         {bucket(200, 1, 0, 1000), 200, 1200},
		"at last, at once":      {bucket(200, 1, 150, 1000), 150, 1000},
	} {
		if at := impl.ReadyAt(c.b, c.some); at != c.want {
			t.Errorf("%s: ReadyAt of %v, %d = %d, not %d", what, c.b, c.some, at, c.want)
		}
	}
}

// P106, P107.
func TestWhoWaitsIsReady(t *testing.T) {
	eachBucket(func(b impl.Bucket) {
		before := b.Last
		for some := range b.Size + 1 {
			at := impl.ReadyAt(b, some)
			if at != readyByHand(b, some) || at < before || some <= b.Level && at != b.Last {
				t.Errorf("ReadyAt of %v, %d = %d, and 1 less %d", b, some, at, before)
			}
			if at <= impl.MaxClock && impl.LevelAt(b, at) < some {
				t.Errorf("ReadyAt of %v, %d = %d, and LevelAt = %d", b, some, at, impl.LevelAt(b, at))
			}
			if at > b.Last && at-1 <= impl.MaxClock && impl.LevelAt(b, at-1) >= some {
				t.Errorf("ReadyAt of %v, %d = %d, and LevelAt before is %d", b, some, at, impl.LevelAt(b, at-1))
			}
			before = at
		}
		for _, some := range []int{-1, -200, b.Size + 1, b.Size + 20, 201, leastInt, mostInt} {
			if at := impl.ReadyAt(b, some); at != -1 {
				t.Errorf("ReadyAt of %v, %d = %d", b, some, at)
			}
		}
	})
}

// P108, P109, P173: what passes, written by hand.
func TestPassAllByHand(t *testing.T) {
	b := bucket(10, 2, 3, 100)
	for what, c := range map[string]struct {
		b               impl.Bucket
		sizes, at, want []int
	}{
		"one":                     {b, []int{3}, []int{100}, []int{1}},
		"one too large":           {b, []int{4}, []int{100}, []int{0}},
		"one later":               {b, []int{4}, []int{101}, []int{1}},
		"one larger than all":     {b, []int{11}, []int{1000}, []int{0}},
		"one as large as all":     {b, []int{10}, []int{104}, []int{1}},
		"more":                    {b, []int{3, 1, 2, 11}, []int{100, 100, 101, 200}, []int{1, 0, 1, 0}},
		"small behind large":      {b, []int{4, 3, 1}, []int{100, 100, 100}, []int{0, 1, 0}},
		"large ones take nothing": {b, []int{20, 20, 5, 20}, []int{100, 101, 101, 101}, []int{0, 0, 1, 0}},
		"late ones are no loss":   {b, []int{20, 5}, []int{101, 101}, []int{0, 1}},
		"filled in between":       {b, []int{3, 2, 2, 2, 3}, []int{100, 101, 102, 103, 104}, []int{1, 1, 1, 1, 0}},
		"filled for two":          {b, []int{3, 3, 3, 4, 1}, []int{100, 101, 102, 103, 103}, []int{1, 0, 1, 0, 1}},
		"full in between":         {b, []int{10, 10, 9}, []int{110, 114, 115}, []int{1, 0, 1}},
		"full, and no more":       {b, []int{1, 10}, []int{200, 200}, []int{1, 0}},
		"the least bucket":        {bucket(1, 1, 1, 0), []int{1, 1, 1, 2, 1}, []int{0, 0, 1, 2, 2}, []int{1, 0, 1, 0, 1}},
		"a full one":              {bucket(200, 20, 200, 0), times(12, 20), times(12, 0), join(times(10, 1), times(2, 0))},
		"at last":                 {bucket(40, 20, 40, 1000), []int{20, 20, 1}, times(3, 1000), []int{1, 1, 0}},
		"from first to last":      {bucket(20, 1, 0, 0), []int{20, 20, 1}, []int{0, 1000, 1000}, []int{0, 1, 0}},
		"as much as comes":        {bucket(200, 20, 0, 0), times(12, 20), upTo(12), join([]int{0}, times(11, 1))},
	} {
		if passed := impl.PassAll(c.b, c.sizes, c.at); !slices.Equal(passed, c.want) {
			t.Errorf("%s: PassAll of %v, %v, %v = %v", what, c.b, c.sizes, c.at, passed)
		}
	}
}

// eachPass calls a function with buckets, and with sizes and times of all
// lengths at which they are asked.
func eachPass(f func(b impl.Bucket, sizes []int, at []int)) {
	d := dice{state: 17}
	i := 0
	eachBucket(func(b impl.Bucket) {
		for range 4 {
			i++
			var sizes, at []int
			for range i % 13 {
				sizes = append(sizes, 1+d.roll([]int{2, 7, 20}[i%3]))
				at = append(at, min(b.Last+d.roll([]int{1, 5, 30, 1000}[i/3%4]), 1000))
			}
			slices.Sort(at)
			f(b, sizes, at)
		}
	})
}

// P108, P109.
func TestPassingGoesOneByOne(t *testing.T) {
	eachPass(func(b impl.Bucket, sizes []int, at []int) {
		want, _ := passByHand(b, sizes, at)
		passed := impl.PassAll(b, sizes, at)
		if !slices.Equal(passed, want) {
			t.Fatalf("PassAll of %v, %v, %v = %v, not %v", b, sizes, at, passed, want)
		}
		all := 0
		for i, size := range sizes {
			all += size * passed[i]
			if all > b.Level+b.Rate*(at[i]-b.Last) {
				t.Errorf("PassAll of %v, %v, %v = %v lets more pass than there is", b, sizes, at, passed)
			}
			_, after := passByHand(b, sizes[:i+1], at[:i+1])
			if rest := impl.PassAll(after, sizes[i+1:], at[i+1:]); !slices.Equal(rest, passed[i+1:]) {
				t.Errorf("PassAll of %v, %v, %v = %v, and from %v on %v", b, sizes, at, passed, after, rest)
			}
		}
		if len(sizes) == 0 {
			return
		}
		// Where the first one fails, the bucket after it is as it was.
		after, ok := impl.TakeFrom(b, sizes[0], at[0])
		if !ok {
			after = b
		}
		if rest := impl.PassAll(after, sizes[1:], at[1:]); !slices.Equal(rest, passed[1:]) || ok != (passed[0] == 1) {
			t.Errorf("PassAll of %v, %v, %v = %v, and after TakeFrom %v", b, sizes, at, passed, rest)
		}
	})
}

// P173.
func TestSmallItemsPass(t *testing.T) {
	eachBucket(func(b impl.Bucket) {
		for _, now := range timesOf(b) {
			for size := 1; size <= impl.MaxSize; size++ {
				want := 0
				if impl.LevelAt(b, now) >= size {
					want = 1
				}
				if passed := impl.PassAll(b, []int{size}, []int{now}); !slices.Equal(passed, []int{want}) {
					t.Errorf("PassAll of %v, %d, %d = %v", b, size, now, passed)
				}
			}
		}
	})
}

func TestInvalidPasses(t *testing.T) {
	for _, b := range []impl.Bucket{bucket(10, 2, 3, 100), bucket(200, 20, 200, 100), bucket(1, 1, 0, 100)} {
		for what, sizes := range map[string][]int{
			"size 0":          {0},
			"size 0, first":   {0, 1},
			"size 0, last":    {1, 1, 0},
			"size 0, twelfth": join(times(11, 1), []int{0}),
			"size below":      {1, -1},
			"size above":      {1, 21, 1},
			"size far above":  {200},
			"least size":      {leastInt},
			"greatest size":   {mostInt},
			"too many":        times(13, 1),
			"far too many":    times(100, 1),
		} {
			wantNoPasses(t, what, b, sizes, times(len(sizes), 100))
			wantNoPasses(t, what+", at last", b, sizes, times(len(sizes), 1000))
		}
		for what, at := range map[string][]int{
			"before last":          {99},
			"before last, first":   {99, 100},
			"far before last":      {0, 1, 2},
			"time below":           {-1},
			"time above":           {1001},
			"time above, last":     {100, 1000, 1001},
			"least time":           {leastInt, 100},
			"greatest time":        {100, mostInt},
			"falling":              {102, 101},
			"falling at last":      {100, 101, 103, 102},
			"falling at first":     {101, 100, 103, 103},
			"falling in between":   {100, 200, 150, 300},
			"falling before last":  {100, 99},
			"falling from the end": {1000, 100},
		} {
			wantNoPasses(t, what, b, times(len(at), 1), at)
			wantNoPasses(t, what+", too large", b, times(len(at), 20), at)
		}
		for many := range 13 {
			for others := range 15 {
				if many != others {
					wantNoPasses(t, "other lengths", b, times(many, 1), times(others, 100))
				}
			}
		}
		wantNoPasses(t, "sizes alone", b, []int{1}, nil)
		wantNoPasses(t, "times alone", b, nil, []int{100})
	}
}

// P109: nobody passes an empty list, whatever memory it has.
func TestEmptyListsHaveNoPasses(t *testing.T) {
	empty := [][]int{nil, {}, spare([]int{}), []int{99, 1, 99}[:0], times(13, 1)[:0]}
	for _, sizes := range empty {
		for _, at := range empty {
			if passed := impl.PassAll(bucket(10, 2, 3, 100), sizes, at); len(passed) != 0 {
				t.Errorf("PassAll of nothing = %v", passed)
			}
		}
	}
}

func TestPassesShareNoMemory(t *testing.T) {
	b := bucket(10, 2, 3, 100)
	for range 2 {
		sizes, at := spare([]int{3, 1, 2, 11}), spare([]int{100, 100, 101, 200})
		passed := impl.PassAll(b, sizes, at)
		if !slices.Equal(passed, []int{1, 0, 1, 0}) {
			t.Errorf("PassAll is kept: %v", passed)
		}
		overwrite(passed, 77)
		if !slices.Equal(sizes, []int{3, 1, 2, 11}) || !slices.Equal(at, []int{100, 100, 101, 200}) || !zeros(behind(sizes)) || !zeros(behind(at)) {
			t.Errorf("the arguments are changed: %v, %v", sizes, at)
		}
		same := spare([]int{10, 11, 20})
		if passed := impl.PassAll(bucket(200, 20, 30, 5), same, same); !slices.Equal(passed, []int{1, 1, 1}) {
			t.Errorf("PassAll of the same sizes and times = %v", passed)
		}
		if !slices.Equal(same, []int{10, 11, 20}) || !zeros(behind(same)) {
			t.Errorf("the argument is changed: %v", same)
		}
	}
}
