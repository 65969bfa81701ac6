package voice

import (
	"slices"

	"remontoir/api"
)

// within reports whether a number is from low to high.
func within(n, low, high int) bool { return low <= n && n <= high }

// isIn reports whether a number is in a span.
func isIn(n int, s api.Span) bool { return within(n, s.Low, s.High) }

// isSpan reports whether a span is one, and lies between 0 and a number.
func isSpan(s api.Span, most int) bool {
	return within(s.Low, 0, s.High) && s.High <= most
}

// greatest returns the greatest of some numbers.
func greatest[T ~int](first T, others ...T) T {
	for _, n := range others {
		first = max(first, n)
	}
	return first
}

// areAll reports whether each thing of a list is as it has to be.
func areAll[T any](list []T, is func(T) bool) bool {
	return !slices.ContainsFunc(list, func(x T) bool { return !is(x) })
}

// hasUpTo reports whether a list has something, but no more than so many things.
func hasUpTo[T any](list []T, most int) bool { return within(len(list), 1, most) }
