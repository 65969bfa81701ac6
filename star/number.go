package star

import (
	"cmp"
	"slices"

	"remontoir/api"
)

// within reports whether a number is from low to high.
func within(n, low, high int) bool { return low <= n && n <= high }

// least returns the least of several numbers.
func least[T cmp.Ordered](first T, more ...T) T {
	for _, n := range more {
		if n < first {
			first = n
		}
	}
	return first
}

// areAll reports whether a list has at most so many things, and each is as it has to be.
func areAll[T any](list []T, most int, is func(T) bool) bool {
	return len(list) <= most && !slices.ContainsFunc(list, func(x T) bool { return !is(x) })
}

// isSpan reports whether a span is one that lies from low to high.
func isSpan(s api.Span, low, high int) bool {
	return within(s.Low, low, s.High) && s.High <= high
}

// both returns what lies in two spans; it is no span, if nothing does.
func both(a, b api.Span) api.Span {
	return api.Span{Low: -least(-a.Low, -b.Low), High: least(a.High, b.High)}
}

// turned returns the numbers of a span with the other sign.
func turned(s api.Span) api.Span { return api.Span{Low: -s.High, High: -s.Low} }

// side is a side to which numbers can lie: which end of a span is asked for, and the sign of what lies there.
type side struct {
	end  func(api.Span) int
	sign int
}

// upwards is the side of the numbers above 0.
func upwards() side { return side{end: func(s api.Span) int { return s.High }, sign: 1} }

// downwards is the side of the numbers below 0.
func downwards() side { return side{end: func(s api.Span) int { return -s.Low }, sign: -1} }

// sideOf returns the side of the greatest numbers, or that of the least ones.
func sideOf(most bool) side {
	if most {
		return upwards()
	}
	return downwards()
}
