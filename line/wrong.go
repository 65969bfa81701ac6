package line

import (
	"cmp"
	"iter"
	"slices"
)

// noDelay is none: no loop fits it.
const noDelay = -1

// wrongAt returns the loops to an exchange that do not fit a delay.
func (n net) wrongAt(exchange, delay int) []int {
	var list []int
	for i, fit := range n.fits(exchange) {
		if !isIn(delay, fit) {
			list = append(list, i)
		}
	}
	return list[:len(list):len(list)]
}

// tried are delays on a way of which one fits as many loops as any delay there: what the way and some loops have in common begins where one of them begins.
func (n net) tried(w way) iter.Seq[int] {
	return func(yield func(int) bool) {
		s := n.delay(w)
		if !yield(s.Low) {
			return
		}
		for _, fit := range n.fits(w.at) {
			if isIn(fit.Low, s) && !yield(fit.Low) {
				return
			}
		}
	}
}

// isBefore reports whether a list is shorter than another one, or as long and comes first.
func isBefore(a, b []int) bool {
	return cmp.Or(cmp.Compare(len(a), len(b)), slices.Compare(a, b)) < 0
}

// wrongOf returns the fewest loops to an exchange without which one of the ways to it is a route, the first ones of as few: all, if there is no way.
func (n net) wrongOf(exchange int, ways []way) []int {
	fewest := n.wrongAt(exchange, noDelay)
	for _, w := range ways {
		for delay := range n.tried(w) {
			if list := n.wrongAt(exchange, delay); isBefore(list, fewest) {
				fewest = list
			}
		}
	}
	return fewest
}

// wrong returns the fewest loops without which the net can be true. It asks of each exchange by itself, because a loop tells only of its own one.
func (n net) wrong() []int {
	k := n.known(isAny)
	var list []int
	for exchange := range n.Exchanges {
		list = append(list, n.wrongOf(exchange, k.leading(exchange))...)
	}
	slices.Sort(list)
	return list[:len(list):len(list)]
}
