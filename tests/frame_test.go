package tests

import (
	"slices"
	"testing"

	"loop.example/telemetryagent/impl"
)

func sameItem(x impl.Item, y impl.Item) bool {
	return x.Class == y.Class && x.Key == y.Key && slices.Equal(x.Body, y.Body)
}

func sameItems(a []impl.Item, b []impl.Item) bool {
	return slices.EqualFunc(a, b, sameItem)
}

// validItems has items with bodies of all lengths, and with frames and parts
// of frames as bodies.
func validItems() []impl.Item {
	d := dice{state: 1}
	var bodies [][]int
	for n := range impl.MaxBody + 1 {
		bodies = append(bodies, times(n, 0), times(n, impl.MaxByte), times(n, impl.FrameMark), d.bytes(n))
	}
	inner := frameByHand(impl.Item{Class: 2, Key: 9, Body: []int{4}})
	bodies = append(bodies, inner, inner[:3], join(inner, []int{impl.FrameMark, 0}), join([]int{1, 2}, inner))
	var items []impl.Item
	for i, body := range bodies {
		for _, key := range []int{0, 1, impl.FrameMark, d.roll(254), 254, impl.MaxByte} {
			items = append(items, impl.Item{Class: (i + key) % impl.Classes, Key: key, Body: body})
		}
	}
	return items
}

func invalidItems() map[string]impl.Item {
	return map[string]impl.Item{
		"class below":      {Class: -1},
		"class above":      {Class: 3},
		"least class":      {Class: leastInt},
		"greatest class":   {Class: mostInt},
		"key below":        {Key: -1},
		"key above":        {Key: 256},
		"least key":        {Key: leastInt},
		"greatest key":     {Key: mostInt},
		"long body":        {Body: make([]int, 9)},
		"very long body":   {Body: make([]int, 300)},
		"number below":     {Body: []int{-1}},
		"number above":     {Body: []int{256}},
		"last one below":   {Body: []int{0, 0, 0, 0, 0, 0, 0, -1}},
		"last one above":   {Body: []int{0, 0, 0, 0, 0, 0, 0, 256}},
		"greatest number":  {Body: []int{1, mostInt, 1}},
		"all of it":        {Class: 7, Key: -7, Body: times(9, 999)},
		"class above, etc": {Class: 3, Key: 5, Body: []int{1}},
	}
}

// otherNumbers has numbers that no stream has. They begin with a frame.
func otherNumbers() map[string][]int {
	frame := frameByHand(impl.Item{Class: 1, Key: 7, Body: []int{9}})
	return map[string][]int{
		"too many":        join(frame, make([]int, 61-len(frame))),
		"far too many":    join(frame, make([]int, 600)),
		"below":           join(frame, []int{-1}),
		"above":           join(frame, []int{256}),
		"above at last":   join(frame, make([]int, 59-len(frame)), []int{256}),
		"below in front":  join([]int{-1}, frame),
		"above in front":  join([]int{256}, frame),
		"least":           join(frame, []int{0, leastInt, 0}),
		"greatest":        join(frame, []int{0, mostInt, 0}),
		"length below":    with(frame, 1, -1),
		"length far away": with(frame, 1, mostInt),
		"class above":     with(frame, 2, 256),
		"key below":       with(frame, 3, -1),
	}
}

// checkByHand is the check as the document defines it.
func checkByHand(list []int) int {
	check := 17
	for _, n := range list {
		check = (31*check + n) % 251
	}
	return check
}

// frameByHand is the frame of an item, whether this is valid or not.
func frameByHand(x impl.Item) []int {
	inner := join([]int{len(x.Body), x.Class, x.Key}, x.Body)
	return join([]int{165}, inner, []int{checkByHand(inner)})
}

// streams has frames, torn frames, changed frames, marks and other numbers,
// mixed, of all lengths up to the limit.
func streams() [][]int {
	d := dice{state: 2}
	items := validItems()
	list := [][]int{nil}
	for range 2000 {
		most := d.roll(impl.MaxStream + 1)
		var b []int
		for len(b) < most {
			frame := impl.FrameOf(items[d.roll(len(items))])
			switch d.roll(6) {
			case 0:
				b = join(b, frame[:d.roll(len(frame))])
			case 1:
				b = join(b, with(frame, d.roll(len(frame)), d.roll(256)))
			case 2:
				b = join(b, d.bytes(1+d.roll(4)))
			case 3:
				b = join(b, times(1+d.roll(3), impl.FrameMark))
			default:
				b = join(b, frame)
			}
		}
		list = append(list, b[:most])
	}
	return list
}

// P1, P128.
func TestValidItem(t *testing.T) {
	for class := range impl.Classes {
		for key := range impl.MaxByte + 1 {
			if !impl.ValidItem(impl.Item{Class: class, Key: key}) || !impl.ValidItem(impl.Item{Class: class, Key: key, Body: []int{}}) {
				t.Errorf("an empty item of class %d with key %d is not valid", class, key)
			}
		}
	}
	for _, x := range validItems() {
		for n := len(x.Body); n >= 0; n-- {
			y := impl.Item{Class: x.Class, Key: x.Key, Body: x.Body[:n]}
			if !impl.ValidItem(y) {
				t.Errorf("%v is not valid", y)
			}
		}
	}
	for name, x := range invalidItems() {
		if impl.ValidItem(x) {
			t.Errorf("%s: %v is valid", name, x)
		}
	}
}

// P2, P129.
func TestChecksGoNumberByNumber(t *testing.T) {
	if n := impl.CheckOf(nil); n != 17 {
		t.Errorf("CheckOf of nothing = %d", n)
	}
	for _, c := range []struct{ n, check int }{{0, 25}, {1, 26}, {225, 250}, {226, 0}, {255, 29}} {
		if got := impl.CheckOf([]int{c.n}); got != c.check {
			t.Errorf("CheckOf %d = %d, not %d", c.n, got, c.check)
		}
	}
	d := dice{state: 3}
	for n := 1; n <= impl.MaxStream; n++ {
		for _, b := range [][]int{times(n, 0), times(n, impl.MaxByte), d.bytes(n), d.bytes(n)} {
			check := impl.CheckOf(b)
			if before := impl.CheckOf(b[:n-1]); check != (31*before+b[n-1])%251 {
				t.Errorf("CheckOf %v = %d, and %d without the last number", b, check, before)
			}
			if check < 0 || check >= impl.CheckCycle {
				t.Errorf("CheckOf %v = %d", b, check)
			}
		}
	}
	for name, b := range otherNumbers() {
		if n := impl.CheckOf(b); n != -1 {
			t.Errorf("%s: CheckOf = %d", name, n)
		}
	}
}

// P3.
func TestOtherNumbersHaveOtherChecks(t *testing.T) {
	d := dice{state: 4}
	for _, n := range []int{1, 2, 3, 11, 31, impl.MaxStream} {
		for range 20 {
			b := d.bytes(n)
			for i := range b {
				if b[i] < impl.MaxByte && impl.CheckOf(with(b, i, b[i]+1)) == impl.CheckOf(b) {
					t.Errorf("%v has the same check with 1 more at %d", b, i)
				}
			}
		}
	}
}

// P130.
func TestFramesHaveTheBody(t *testing.T) {
	if b := impl.FrameOf(impl.Item{Class: 1, Key: 7, Body: []int{9, 255}}); !slices.Equal(b, []int{165, 2, 1, 7, 9, 255, 129}) {
		t.Errorf("FrameOf = %v", b)
	}
	for _, x := range validItems() {
		b, n := impl.FrameOf(x), len(x.Body)
		if len(b) != n+5 {
			t.Fatalf("FrameOf %v = %v", x, b)
		}
		if !slices.Equal(b[:4], []int{165, n, x.Class, x.Key}) || !slices.Equal(b[4:4+n], x.Body) || b[4+n] != impl.CheckOf(b[1:4+n]) {
			t.Errorf("FrameOf %v = %v", x, b)
		}
	}
	for name, x := range invalidItems() {
		if b := impl.FrameOf(x); len(b) != 0 {
			t.Errorf("%s: FrameOf %v = %v", name, x, b)
		}
	}
}

// P4.
func TestFramesCanBeRead(t *testing.T) {
	d := dice{state: 5}
	for _, x := range validItems() {
		frame := impl.FrameOf(x)
		left := impl.MaxStream - len(frame)
		for _, tail := range [][]int{nil, {0}, {impl.FrameMark}, frame, d.bytes(left), times(left, impl.FrameMark)} {
			y, n, ok := impl.ReadFrame(join(frame, tail))
			if !ok || n != len(frame) || !sameItem(x, y) {
				t.Errorf("ReadFrame of the frame of %v = %v, %d, %v", x, y, n, ok)
			}
		}
	}
}

// wantNoFrame reports an error if there is a frame at the beginning.
func wantNoFrame(t *testing.T, what string, b []int) {
	t.Helper()
	if x, n, ok := impl.ReadFrame(b); ok || n != 0 || !sameItem(x, impl.Item{}) {
		t.Errorf("%s: ReadFrame of %v = %v, %d, %v", what, b, x, n, ok)
	}
}

// P5: no beginning of a frame is one, and neither is one with more behind
// it that is not the frame's rest.
func TestTornFramesAreNone(t *testing.T) {
	for _, x := range validItems() {
		frame := impl.FrameOf(x)
		for n := range frame {
			wantNoFrame(t, "torn", frame[:n])
		}
		last := frame[len(frame)-1]
		wantNoFrame(t, "torn", join(frame[:len(frame)-1], []int{(last + 1) % 256}, frame))
	}
}

// P131.
func TestChangedFramesAreNone(t *testing.T) {
	for _, x := range validItems() {
		frame := impl.FrameOf(x)
		if x.Key < impl.MaxByte {
			wantNoFrame(t, "key", with(frame, 3, x.Key+1))
		}
		for i := 2; i < len(frame)-1; i++ {
			for n := range impl.MaxByte + 1 {
				// A number that is greater by CheckCycle has the same check.
				if (n-frame[i])%impl.CheckCycle != 0 {
					wantNoFrame(t, "one number", with(frame, i, n))
				}
			}
		}
		for n := range impl.MaxByte + 1 {
			if n != frame[0] {
				wantNoFrame(t, "mark", with(frame, 0, n))
			}
			if n != frame[len(frame)-1] {
				wantNoFrame(t, "check", with(frame, len(frame)-1, n))
			}
		}
	}
}

// P6: the check of a frame holds for items that are not valid, too, and
// these have no frames.
func TestFramesOfInvalidItemsAreNone(t *testing.T) {
	for name, x := range invalidItems() {
		wantNoFrame(t, name, frameByHand(x))
	}
	for class := impl.Classes; class <= impl.MaxByte; class++ {
		wantNoFrame(t, "class", frameByHand(impl.Item{Class: class, Key: 1, Body: []int{2}}))
	}
	for n := impl.MaxBody + 1; n <= impl.MaxStream-5; n++ {
		wantNoFrame(t, "length", frameByHand(impl.Item{Class: 1, Key: 1, Body: times(n, 3)}))
	}
	wantNoFrame(t, "nothing", nil)
	wantNoFrame(t, "mark alone", []int{impl.FrameMark})
}

func TestReadingOtherNumbers(t *testing.T) {
	for name, b := range otherNumbers() {
		wantNoFrame(t, name, b)
		if items, lost := impl.ReadStream(b); len(items) != 0 || lost != -1 {
			t.Errorf("%s: ReadStream = %v, %d", name, items, lost)
		}
	}
}

// P6: FrameOf of what is read is what was read, and there is an item where
// there is a frame.
func TestFramesHaveOneForm(t *testing.T) {
	read := 0
	for _, b := range streams() {
		for i := range b {
			x, n, ok := impl.ReadFrame(b[i:])
			if !ok {
				wantNoFrame(t, "none", b[i:])
				continue
			}
			read++
			if n > len(b)-i || !slices.Equal(impl.FrameOf(x), b[i:i+n]) || !impl.ValidItem(x) {
				t.Errorf("ReadFrame of %v = %v, %d", b[i:], x, n)
			}
		}
	}
	if read < 1000 {
		t.Errorf("only %d frames in the streams", read)
	}
}

// P132.
func TestStreamsBeginWithFrames(t *testing.T) {
	for _, b := range streams() {
		for i := range b {
			x, _, ok := impl.ReadFrame(b[i:])
			if !ok {
				continue
			}
			if items, _ := impl.ReadStream(b[i:]); len(items) == 0 || !sameItem(items[0], x) {
				t.Errorf("ReadStream of %v = %v", b[i:], items)
			}
		}
	}
}

// P7.
func TestAllNumbersAreInFramesOrLost(t *testing.T) {
	for _, b := range streams() {
		items, lost := impl.ReadStream(b)
		all := lost
		for _, x := range items {
			all += len(impl.FrameOf(x))
		}
		if all != len(b) || lost < 0 {
			t.Errorf("ReadStream of %v = %v, %d", b, items, lost)
		}
	}
}

// P8.
func TestWholeStreamsLoseNothing(t *testing.T) {
	for _, b := range streams() {
		items, _ := impl.ReadStream(b)
		var whole []int
		for _, x := range items {
			whole = join(whole, impl.FrameOf(x))
		}
		if again, lost := impl.ReadStream(whole); lost != 0 || !sameItems(items, again) {
			t.Errorf("ReadStream of %v = %v, %d", whole, again, lost)
		}
	}
	twelve := make([]impl.Item, 12)
	var full []int
	for i := range twelve {
		twelve[i] = impl.Item{Class: i % 3, Key: 20 * i}
		full = join(full, impl.FrameOf(twelve[i]))
	}
	if items, lost := impl.ReadStream(full); len(full) != impl.MaxStream || lost != 0 || !sameItems(items, twelve) {
		t.Errorf("ReadStream of twelve frames = %v, %d", items, lost)
	}
}

// P9.
func TestStreamsAreFoundAgain(t *testing.T) {
	for i, b := range streams() {
		if len(b) == impl.MaxStream {
			continue
		}
		n := i % 256
		if n == impl.FrameMark {
			n = 0
		}
		items, lost := impl.ReadStream(b)
		again, more := impl.ReadStream(join([]int{n}, b))
		if more != lost+1 || !sameItems(items, again) {
			t.Errorf("ReadStream of %v = %v, %d, and behind %d %v, %d", b, items, lost, n, again, more)
		}
	}
	frame := impl.FrameOf(impl.Item{Key: 3})
	for n := range impl.MaxByte + 1 {
		if items, lost := impl.ReadStream(join([]int{n}, frame)); len(items) != 1 || lost != 1 {
			t.Errorf("ReadStream behind %d = %v, %d", n, items, lost)
		}
	}
}

// P7, P9: marks in bodies begin no frames, unless the frame around them is
// none.
func TestMarksInBodies(t *testing.T) {
	inner := impl.Item{Class: 2, Key: 9, Body: []int{4, impl.FrameMark}}
	outer := impl.Item{Class: 1, Key: impl.FrameMark, Body: join([]int{impl.FrameMark}, impl.FrameOf(inner))}
	frame := impl.FrameOf(outer)
	last := len(frame) - 1
	for _, c := range []struct {
		name  string
		b     []int
		items []impl.Item
		lost  int
	}{
		{"nothing", nil, nil, 0},
		{"mark alone", []int{impl.FrameMark}, nil, 1},
		{"marks alone", times(impl.MaxStream, impl.FrameMark), nil, impl.MaxStream},
		{"no marks", times(impl.MaxStream, 0), nil, impl.MaxStream},
		{"frame in a frame", frame, []impl.Item{outer}, 0},
		{"frame in a torn frame", frame[:last], []impl.Item{inner}, 5},
		{"frame in a changed frame", with(frame, last, (frame[last]+1)%251), []impl.Item{inner}, 6},
		{"torn frame, frame", join(frame[:4], frame), []impl.Item{outer}, 4},
		{"head of a frame, frame", join([]int{impl.FrameMark, 8}, frame), []impl.Item{outer}, 2},
		{"mark, frame", join([]int{impl.FrameMark}, frame), []impl.Item{outer}, 1},
		{"frame, mark, frame", join(frame, []int{impl.FrameMark}, frame), []impl.Item{outer, outer}, 1},
		{"frame, torn frame", join(frame, frame[:3]), []impl.Item{outer}, 3},
		{"frame without its mark, frame", join(frame[1:], frame), []impl.Item{inner, outer}, 5},
		{"inner, outer", join(impl.FrameOf(inner), frame, []int{0}), []impl.Item{inner, outer}, 1},
	} {
		if items, lost := impl.ReadStream(c.b); lost != c.lost || !sameItems(items, c.items) {
			t.Errorf("%s: ReadStream of %v = %v, %d", c.name, c.b, items, lost)
		}
	}
}

// A check is smaller than CheckCycle: one that is only the same when divided
// by it is another number.
func TestChecksAreNotDividedAgain(t *testing.T) {
	found := 0
	for key := range impl.MaxByte + 1 {
		frame := impl.FrameOf(impl.Item{Key: key})
		if frame[4]+impl.CheckCycle <= impl.MaxByte {
			found++
			wantNoFrame(t, "greater check", with(frame, 4, frame[4]+impl.CheckCycle))
		}
	}
	if found == 0 {
		t.Error("no item with a small check")
	}
}

func TestFramesShareNoMemory(t *testing.T) {
	x := impl.Item{Class: 1, Key: 7, Body: spare([]int{9, 8, 7})}
	frame := impl.FrameOf(x)
	if !zeros(behind(x.Body)) {
		t.Error("FrameOf writes behind the body")
	}
	clear(frame)
	if !slices.Equal(x.Body, []int{9, 8, 7}) {
		t.Error("FrameOf shares the body")
	}
	b := join(impl.FrameOf(x), impl.FrameOf(x), []int{1, 2})
	before := slices.Clone(b)
	y, _, _ := impl.ReadFrame(b)
	clear(y.Body[:cap(y.Body)])
	items, _ := impl.ReadStream(b)
	clear(items[0].Body[:cap(items[0].Body)])
	if !slices.Equal(b, before) {
		t.Error("ReadFrame or ReadStream shares the numbers")
	}
	if !sameItem(items[1], x) {
		t.Error("two items of ReadStream share a body")
	}
}
