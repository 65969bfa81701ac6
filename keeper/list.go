package keeper

import (
	"iter"
	"strconv"
	"strings"
)

// within reports whether a number is from low to high.
func within(n, low, high int) bool { return low <= n && n <= high }

// copied returns a list with the same things in new memory.
func copied[T any](list []T) []T {
	other := make([]T, len(list))
	copy(other, list)
	return other
}

// with returns a list with one thing more, in new memory.
func with[T any](list []T, more T) []T { return append(list[:len(list):len(list)], more) }

// parts are what a text has between the separators in it, before the first and behind the last one.
func parts(text, separator string) iter.Seq[string] {
	return func(yield func(string) bool) {
		rest, more := text, true
		for more {
			var part string
			part, rest, more = strings.Cut(rest, separator)
			if !yield(part) {
				return
			}
		}
	}
}

// answer puts an answer of numbers together.
func answer(numbers ...int) string {
	var list []string
	for _, n := range numbers {
		list = append(list, strconv.Itoa(n))
	}
	return strings.Join(list, blank)
}
