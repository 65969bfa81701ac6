package caller

import (
	"slices"

	"remontoir/api"
)

// isIn reports whether a number is in a span.
func isIn(n int, s api.Span) bool { return s.Low <= n && n <= s.High }

// isNumber reports whether a number is that of one of many things.
func isNumber(n, many int) bool { return 0 <= n && n < many }

// areAll reports whether a list has at most so many things, and each is as it has to be.
func areAll[T any](list []T, most int, is func(T) bool) bool {
	return len(list) <= most && !slices.ContainsFunc(list, func(x T) bool { return !is(x) })
}

// sum adds up numbers.
func sum[T ~int](numbers ...T) T {
	var all T
	for _, n := range numbers {
		all += n
	}
	return all
}

// parts returns how many parts a number takes, if a part that is begun counts as a whole one.
func parts(n, part int) int { return (n + part - 1) / part }
