package scale

import (
	"slices"

	"remontoir/api"
)

// within reports whether a number is from low to high.
func within(n, low, high int) bool { return low <= n && n <= high }

// sum adds up numbers.
func sum[T ~int](numbers ...T) T {
	var all T
	for _, n := range numbers {
		all += n
	}
	return all
}

// areAll reports whether a list has at most so many things, and each is as it has to be.
func areAll[T any](list []T, most int, is func(T) bool) bool {
	return len(list) <= most && !slices.ContainsFunc(list, func(x T) bool { return !is(x) })
}

// isSpan reports whether a span is one, and reaches no farther than a number to both sides.
func isSpan(s api.Span, most int) bool {
	return within(s.Low, -most, s.High) && s.High <= most
}

// both returns what lies in two spans; it is no span, if nothing does.
func both(a, b api.Span) api.Span {
	return api.Span{Low: max(a.Low, b.Low), High: min(a.High, b.High)}
}

// added returns between what a number of one span and one of another one lie, added up.
func added(a, b api.Span) api.Span {
	return api.Span{Low: sum(a.Low, b.Low), High: sum(a.High, b.High)}
}

// turned returns the numbers of a span with the other sign.
func turned(s api.Span) api.Span { return api.Span{Low: -s.High, High: -s.Low} }

// nearest returns the number of a span that differs least from 0.
func nearest(s api.Span) int { return max(s.Low, min(s.High, 0)) }

// end is one of the two ends of a span: the number there, and the sign of the side that it bounds.
type end struct {
	of   func(api.Span) int
	sign int
}

// ends are both ends of a span.
func ends() [2]end {
	return [...]end{
		{of: func(s api.Span) int { return s.Low }, sign: -1},
		{of: func(s api.Span) int { return s.High }, sign: 1},
	}
}

// farthest returns how far the numbers of a span reach from 0, on either side.
func farthest(s api.Span) int {
	far := 0
	for _, x := range ends() {
		far = max(far, x.sign*x.of(s))
	}
	return far
}
