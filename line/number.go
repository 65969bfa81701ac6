package line

import (
	"slices"

	"remontoir/api"
)

// within reports whether a number is from low to high.
func within(n, low, high int) bool { return low <= n && n <= high }

// areAll reports whether a list has at most so many things, and each is as it has to be.
func areAll[T any](list []T, most int, is func(T) bool) bool {
	return len(list) <= most && !slices.ContainsFunc(list, func(x T) bool { return !is(x) })
}

// sum adds up numbers.
func sum[T ~int](numbers ...T) T {
	var all T
	for _, n := range numbers {
		all += n
	}
	return all
}

// isSpan reports whether a span is one, and lies between 0 and a number.
func isSpan(s api.Span, most int) bool { return within(s.Low, 0, s.High) && s.High <= most }

// isIn reports whether a number is in a span.
func isIn(n int, s api.Span) bool { return within(n, s.Low, s.High) }

// both returns what lies in two spans; it is no span, if nothing does.
func both(a, b api.Span) api.Span {
	return api.Span{Low: max(a.Low, b.Low), High: min(a.High, b.High)}
}

// side is one of the two sides of spans: which of their ends lies there.
type side struct {
	end func(api.Span) int
}

func low() side { return side{func(s api.Span) int { return s.Low }} }

func high() side { return side{func(s api.Span) int { return s.High }} }

// ends returns the ends of spans on a side.
func (s side) ends(spans []api.Span) []int {
	var list []int
	for _, x := range spans {
		list = append(list, s.end(x))
	}
	return list[:len(list):len(list)]
}

// added returns between what numbers of several spans lie, one of each added up.
func added(spans []api.Span) api.Span {
	return api.Span{Low: sum(low().ends(spans)...), High: sum(high().ends(spans)...)}
}

// around returns from the least to the greatest number of several spans; there is at least one.
func around(spans []api.Span) api.Span {
	return api.Span{Low: slices.Min(low().ends(spans)), High: slices.Max(high().ends(spans))}
}
