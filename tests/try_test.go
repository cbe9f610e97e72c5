package tests

import (
	"slices"
	"testing"

	"loop.example/telemetryagent/impl"
)

// backoffs has how long to wait before each further try, written by hand.
func backoffs() []int {
	return []int{4, 8, 16, 32, 60, 60}
}

// otherTries has numbers that no further try has.
func otherTries() []int {
	return []int{0, -1, 7, 8, 60, leastInt, mostInt}
}

// otherClocks has numbers that are no times, and that no batches have.
func otherClocks() []int {
	return []int{-1, 1001, 1002, leastInt, mostInt}
}

// waitForTry returns how long a batch waits before a further try: what is
// taken from the whole time is made less until it is less than half of it.
func waitForTry(batch int, try int) int {
	wait := backoffs()[try-1]
	half := []int{2, 4, 8, 16, 30, 30}[try-1]
	less := 37*batch + 11*try + 5
	for less >= half {
		less -= half
	}
	return wait - less
}

// somePoints has batches, and times, up to the greatest ones.
func somePoints() []int {
	return []int{0, 1, 2, 3, 6, 7, 12, 29, 30, 31, 100, 256, 500, 941, 998, 999, 1000}
}

// P61, P62.
func TestWaitingDoubles(t *testing.T) {
	for i, want := range backoffs() {
		if n := impl.BackoffOf(i + 1); n != want || n < impl.FirstWait || n > impl.MostWait {
			t.Errorf("BackoffOf(%d) = %d, not %d", i+1, n, want)
		}
	}
	if impl.BackoffOf(1) != impl.FirstWait || impl.BackoffOf(impl.MaxTries) != impl.MostWait {
		t.Errorf("BackoffOf is from %d to %d", impl.BackoffOf(1), impl.BackoffOf(impl.MaxTries))
	}
	for try := 1; try < impl.MaxTries; try++ {
		n, next := impl.BackoffOf(try), impl.BackoffOf(try+1)
		if next != min(2*n, impl.MostWait) {
			t.Errorf("BackoffOf(%d) = %d, and of the next one %d", try, n, next)
		}
	}
	for _, try := range otherTries() {
		if n := impl.BackoffOf(try); n != -1 {
			t.Errorf("BackoffOf(%d) = %d", try, n)
		}
	}
}

// P63: when batches are tried again, written by hand.
func TestTryTimeByHand(t *testing.T) {
	for _, c := range [][4]int{
		{0, 1, 0, 4}, {1, 1, 0, 3}, {2, 1, 0, 4}, {1000, 1, 0, 4}, {0, 1, 1000, 1004},
		{0, 2, 0, 5}, {1, 2, 0, 8}, {2, 2, 0, 7}, {3, 2, 0, 6}, {4, 2, 0, 5},
		{0, 3, 50, 60}, {1, 3, 50, 63}, {2, 3, 50, 66},
		{0, 4, 50, 81}, {1, 4, 50, 76}, {999, 4, 50, 78}, {1000, 4, 50, 73},
		{0, 5, 7, 67}, {1, 5, 7, 60}, {1000, 5, 7, 57}, {30, 5, 1000, 1060},
		{0, 6, 7, 56}, {1, 6, 7, 49}, {1000, 6, 7, 46}, {1000, 6, 1000, 1039},
	} {
		if n := impl.TryTime(c[0], c[1], c[2]); n != c[3] {
			t.Errorf("TryTime of %d, %d, %d = %d, not %d", c[0], c[1], c[2], n, c[3])
		}
	}
}

// P63, P64, P158.
func TestTriesComeInTime(t *testing.T) {
	for try := 1; try <= impl.MaxTries; try++ {
		wait := impl.BackoffOf(try)
		half := wait/2 + wait%2
		for _, now := range somePoints() {
			first := impl.TryTime(0, try, now)
			least, most := first, first
			for batch := range impl.MaxClock + 1 {
				n := impl.TryTime(batch, try, now)
				if n != now+waitForTry(batch, try) || n > now+wait || 2*(n-now) < wait {
					t.Errorf("TryTime of %d, %d, %d = %d", batch, try, now, n)
				}
				if now < impl.MaxClock && impl.TryTime(batch, try, now+1) != n+1 {
					t.Errorf("TryTime of %d, %d, %d = %d, and 1 later %d", batch, try, now, n, impl.TryTime(batch, try, now+1))
				}
				least, most = min(least, n), max(most, n)
			}
			if most-least >= half || most == least {
				t.Errorf("TryTime of all batches, %d, %d is in %d..%d", try, now, least, most)
			}
		}
	}
}

func TestInvalidTries(t *testing.T) {
	want := func(batch int, try int, now int) {
		t.Helper()
		if n := impl.TryTime(batch, try, now); n != -1 {
			t.Errorf("TryTime of %d, %d, %d = %d", batch, try, now, n)
		}
	}
	for _, x := range []int{0, 1, 500, 1000} {
		for _, y := range []int{0, 1, 500, 1000} {
			for _, try := range otherTries() {
				want(x, try, y)
			}
		}
		for _, other := range otherClocks() {
			for try := range impl.MaxTries + 2 {
				want(x, try, other)
				want(other, try, x)
				want(other, try, other)
			}
		}
	}
}

// P65, P66, P159: the times of all tries, written by hand.
func TestTryTimesByHand(t *testing.T) {
	for name, c := range map[string]struct {
		batch, now int
		all        []int
	}{
		"the first batch":       {0, 0, []int{0, 4, 9, 19, 50, 110, 159}},
		"the next batch":        {1, 0, []int{0, 3, 11, 24, 50, 103, 145}},
		"the last batch":        {1000, 7, []int{7, 11, 16, 26, 49, 99, 138}},
		"the last time":         {0, 1000, []int{1000, 1004, 1009, 1019, 1050, 1110, 1159}},
		"the last of both":      {1000, 1000, []int{1000, 1004, 1009, 1019, 1042, 1092, 1131}},
		"up to the last time":   {0, 996, []int{996, 1000, 1005, 1015, 1046, 1106, 1155}},
		"beyond with the third": {0, 982, []int{982, 986, 991, 1001, 1032, 1092, 1141}},
	} {
		for tries := range impl.MaxTries + 1 {
			if all := impl.TryTimes(c.batch, tries, c.now); !slices.Equal(all, c.all[:tries+1]) {
				t.Errorf("%s: TryTimes of %d, %d, %d = %v", name, c.batch, tries, c.now, all)
			}
		}
	}
}

// P65, P66, P159.
func TestTriesFollowEachOther(t *testing.T) {
	for batch := range impl.MaxClock + 1 {
		for _, now := range somePoints() {
			want := []int{now}
			for tries := range impl.MaxTries + 1 {
				if tries > 0 {
					want = append(want, want[tries-1]+waitForTry(batch, tries))
				}
				all := impl.TryTimes(batch, tries, now)
				if !slices.Equal(all, want) {
					t.Fatalf("TryTimes of %d, %d, %d = %v, not %v", batch, tries, now, all, want)
				}
				took, most := all[tries]-now, impl.LastWait(tries)
				if took > most || 2*took < most {
					t.Errorf("TryTimes of %d, %d, %d = %v, and LastWait = %d", batch, tries, now, all, most)
				}
				if tries == 0 {
					continue
				}
				before := all[tries-1]
				if all[tries] <= before || !slices.Equal(impl.TryTimes(batch, tries-1, now), all[:tries]) {
					t.Errorf("TryTimes of %d, %d, %d = %v", batch, tries, now, all)
				}
				if before <= impl.MaxClock && impl.TryTime(batch, tries, before) != all[tries] {
					t.Errorf("TryTimes of %d, %d, %d = %v, and TryTime = %d", batch, tries, now, all, impl.TryTime(batch, tries, before))
				}
			}
		}
	}
}

func TestInvalidTimesOfTries(t *testing.T) {
	want := func(batch int, tries int, now int) {
		t.Helper()
		if all := impl.TryTimes(batch, tries, now); all != nil {
			t.Errorf("TryTimes of %d, %d, %d = %v", batch, tries, now, all)
		}
	}
	for _, x := range []int{0, 1, 500, 1000} {
		for _, y := range []int{0, 1, 500, 1000} {
			for _, tries := range []int{-1, 7, 8, 60, leastInt, mostInt} {
				want(x, tries, y)
			}
		}
		for _, other := range otherClocks() {
			for tries := -1; tries <= impl.MaxTries+1; tries++ {
				want(x, tries, other)
				want(other, tries, x)
				want(other, tries, other)
			}
		}
	}
}

// P67.
func TestWaitsAddUp(t *testing.T) {
	for tries, want := range []int{0, 4, 12, 28, 60, 120, 180} {
		if n := impl.LastWait(tries); n != want {
			t.Errorf("LastWait(%d) = %d, not %d", tries, n, want)
		}
		if tries > 0 && impl.LastWait(tries) != impl.LastWait(tries-1)+impl.BackoffOf(tries) {
			t.Errorf("LastWait(%d) = %d, and with 1 try fewer %d", tries, impl.LastWait(tries), impl.LastWait(tries-1))
		}
	}
	for _, tries := range []int{-1, -2, 7, 8, 60, leastInt, mostInt} {
		if n := impl.LastWait(tries); n != -1 {
			t.Errorf("LastWait(%d) = %d", tries, n)
		}
	}
}

func TestTriesShareNoMemory(t *testing.T) {
	for tries := range impl.MaxTries + 1 {
		overwrite(impl.TryTimes(0, tries, 5), 77)
		if again := impl.TryTimes(0, tries, 5); again[0] != 5 || !slices.Equal(again, []int{5, 9, 14, 24, 55, 115, 164}[:tries+1]) {
			t.Errorf("TryTimes is kept: %v", again)
		}
	}
	for i, want := range backoffs() {
		if n := impl.BackoffOf(i + 1); n != want {
			t.Errorf("BackoffOf(%d) = %d later", i+1, n)
		}
	}
}
