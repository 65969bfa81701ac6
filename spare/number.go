package spare

import (
	"cmp"
	"slices"

	"remontoir/api"
)

// isIn reports whether a number is in a span.
func isIn(n int, s api.Span) bool { return s.Low <= n && n <= s.High }

// areAll reports whether a list has at most so many things, and each is as it has to be.
func areAll[T any](list []T, most int, is func(T) bool) bool {
	return len(list) <= most && !slices.ContainsFunc(list, func(x T) bool { return !is(x) })
}

// least returns the least of several numbers, of which there is at least one.
func least[T cmp.Ordered](first T, more ...T) T {
	for _, n := range more {
		first = min(first, n)
	}
	return first
}
