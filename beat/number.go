package beat

import (
	"slices"

	"remontoir/api"
)

// within reports whether a number is from low to high.
func within(n, low, high int) bool { return low <= n && n <= high }

// sum adds up numbers.
func sum[T ~int](numbers ...T) T {
	var all T
	for _, n := range numbers {
		all += n
	}
	return all
}

// areAll reports whether a list has at most so many things, and each is as it has to be.
func areAll[T any](list []T, most int, is func(T) bool) bool {
	return len(list) <= most && !slices.ContainsFunc(list, func(x T) bool { return !is(x) })
}

// isSpan reports whether a span is one, and reaches no farther than a number to both sides.
func isSpan(s api.Span, most int) bool {
	return within(s.Low, -most, s.High) && s.High <= most
}

// both returns what lies in two spans; it is no span, if nothing does.
func both(a, b api.Span) api.Span {
	return api.Span{Low: max(a.Low, b.Low), High: min(a.High, b.High)}
}

// added returns between what a number of one span and one of another one lie, added up.
func added(a, b api.Span) api.Span {
	return api.Span{Low: sum(a.Low, b.Low), High: sum(a.High, b.High)}
}

// turned returns the numbers of a span with the other sign.
func turned(s api.Span) api.Span { return api.Span{Low: -s.High, High: -s.Low} }

// side is a side to which offsets can lie: how far a span reaches to it, and the sign of what lies there.
type side struct {
	reach func(api.Span) int
	sign  int
}

// ahead is the side of the offsets above 0.
func ahead() side { return side{reach: func(s api.Span) int { return s.High }, sign: 1} }

// behind is the side of the offsets below 0.
func behind() side { return side{reach: func(s api.Span) int { return -s.Low }, sign: -1} }

// sideOf returns the side of the greatest offsets, or that of the least ones.
func sideOf(most bool) side {
	if most {
		return ahead()
	}
	return behind()
}
