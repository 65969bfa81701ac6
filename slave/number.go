package slave

import (
	"cmp"
	"slices"
)

// within reports whether a number is from low to high.
func within(n, low, high int) bool { return low <= n && n <= high }

// areAll reports whether a list has at most so many things, and each is as it has to be.
func areAll[T any](list []T, most int, is func(T) bool) bool {
	return len(list) <= most && !slices.ContainsFunc(list, func(x T) bool { return !is(x) })
}

// greatest returns the greatest of several numbers, none of which is below 0; 0, if there is none.
func greatest[T cmp.Ordered](numbers ...T) T {
	var most T
	for _, n := range numbers {
		most = max(most, n)
	}
	return most
}
