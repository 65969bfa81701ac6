package court

import (
	"cmp"
	"iter"
	"slices"

	"remontoir/api"
)

// isIn reports whether a number is in a span.
func isIn(n int, s api.Span) bool { return s.Low <= n && n <= s.High }

// isSpan reports whether a span is one, and lies in another one.
func isSpan(s, in api.Span) bool { return in.Low <= s.Low && s.Low <= s.High && s.High <= in.High }

// areAll reports whether a list has at most so many things, and each is as it has to be.
func areAll[T any](list []T, most int, is func(T) bool) bool {
	return len(list) <= most && !slices.ContainsFunc(list, func(x T) bool { return !is(x) })
}

// numbers are all those of a span, increasing.
func numbers(s api.Span) iter.Seq[int] {
	return func(yield func(int) bool) {
		for n := s.Low; n <= s.High; n++ {
			if !yield(n) {
				return
			}
		}
	}
}

// greatest returns the greatest of several numbers, of which there is at least one.
func greatest[T cmp.Ordered](first T, more ...T) T {
	for _, n := range more {
		first = max(first, n)
	}
	return first
}
