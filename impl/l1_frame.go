package impl

import "slices"

// Classes is the number of classes of items.
const Classes = 3

// MaxByte is the largest number of a frame.
const MaxByte = 255

// MaxBody is the largest number of numbers of an item.
const MaxBody = 8

// MaxStream is the largest number of numbers of a stream.
const MaxStream = 60

// FrameMark is the number with which a frame begins.
const FrameMark = 165

// CheckStart is the number with which a check begins.
const CheckStart = 17

// CheckStep is by what a check is multiplied.
const CheckStep = 31

// CheckCycle is the number by which it is divided.
const CheckCycle = 251

// frameHead is how many numbers of a frame stand before its body, frameRest
// how many stand before and behind it.
const (
	frameHead = 4
	frameRest = frameHead + 1
)

// Item is something that was measured.
type Item struct {
	Class int
	Key   int
	Body  []int
}

// ValidItem reports whether an item is valid.
func ValidItem(x Item) bool {
	return within(x.Class, 0, Classes-1) && within(x.Key, 0, MaxByte) && validBytes(x.Body, MaxBody)
}

// CheckOf returns the check of numbers, and -1 for numbers that no stream has.
func CheckOf(b []int) int {
	if !validBytes(b, MaxStream) {
		return -1
	}
	check := CheckStart
	for _, n := range b {
		check = (CheckStep*check + n) % CheckCycle
	}
	return check
}

// FrameOf returns the numbers of a valid item.
func FrameOf(x Item) []int {
	if !ValidItem(x) {
		return nil
	}
	frame := []int{FrameMark, len(x.Body), x.Class, x.Key}
	frame = append(frame, x.Body...)
	return append(frame, CheckOf(frame[1:]))
}

// ReadFrame returns the item at the beginning of numbers, and how many of
// them are its frame.
func ReadFrame(b []int) (Item, int, bool) {
	if !validBytes(b, MaxStream) || len(b) < frameRest || b[0] != FrameMark {
		return Item{}, 0, false
	}
	size := frameRest + b[1]
	if len(b) < size {
		return Item{}, 0, false
	}
	// The item gets a body of its own: the argument is only lent.
	x := Item{Class: b[2], Key: b[3], Body: slices.Concat(b[frameHead : size-1])}
	if !ValidItem(x) || CheckOf(b[1:size-1]) != b[size-1] {
		return Item{}, 0, false
	}
	return x, size, true
}

// ReadStream returns the items in numbers, and how many numbers are in none.
func ReadStream(b []int) ([]Item, int) {
	if !validBytes(b, MaxStream) {
		return nil, -1
	}
	var items []Item
	lost := 0
	for len(b) > 0 {
		x, size, ok := ReadFrame(b)
		if !ok {
			// A frame may begin within what only looked like one, so that no
			// more than one number may be given up at a time.
			lost++
			b = b[1:]
			continue
		}
		items = append(items, x)
		b = b[size:]
	}
	return items, lost
}

// validBytes reports whether there are at most some numbers, all of which
// may stand in a frame.
func validBytes(list []int, most int) bool {
	return len(list) <= most && allWithin(list, 0, MaxByte)
}

// allWithin reports whether all numbers are in least..most.
func allWithin(list []int, least int, most int) bool {
	for _, n := range list {
		if !within(n, least, most) {
			return false
		}
	}
	return true
}

// within reports whether a number is in least..most.
func within(n int, least int, most int) bool {
	return least <= n && n <= most
}
