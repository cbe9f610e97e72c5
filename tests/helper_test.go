// Package tests holds the project's tests, one file for each chapter of the
// document. The comment above a test names the promises that it is for.
package tests

import "slices"

const (
	leastInt = -1 << 63
	mostInt  = 1<<63 - 1
)

// dice makes numbers that look random and are the same in every run.
type dice struct{ state uint64 }

// roll returns a number in 0..sides-1.
func (d *dice) roll(sides int) int {
	d.state = d.state*6364136223846793005 + 1442695040888963407
	return int(d.state>>33) % sides
}

// bytes returns some numbers in 0..255.
func (d *dice) bytes(many int) []int {
	var list []int
	for range many {
		list = append(list, d.roll(256))
	}
	return list
}

// join returns all numbers of some lists, one list after the other.
func join(lists ...[]int) []int {
	return slices.Concat(lists...)
}

// with returns numbers of which one is another.
func with(list []int, at int, n int) []int {
	list = slices.Clone(list)
	list[at] = n
	return list
}

// times returns one number many times.
func times(many int, n int) []int {
	return slices.Repeat([]int{n}, many)
}

// spare returns the same elements with some zero elements in the spare
// capacity, so that a result that is appended to them shows.
func spare[T any](list []T) []T {
	long := make([]T, len(list)+20)
	copy(long, list)
	return long[:len(list)]
}

// behind returns the elements in the spare capacity of a list.
func behind[T any](list []T) []T {
	return list[len(list):cap(list)]
}

// zeros reports whether all elements are the zero value.
func zeros[T comparable](list []T) bool {
	var zero T
	return !slices.ContainsFunc(list, func(x T) bool { return x != zero })
}

// overwrite changes all elements of a list, those in its spare capacity, too.
func overwrite[T any](list []T, x T) {
	list = list[:cap(list)]
	for i := range list {
		list[i] = x
	}
}
