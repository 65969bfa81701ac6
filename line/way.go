package line

import (
	"iter"
	"slices"

	"remontoir/api"
)

// exchanges is a set of exchanges.
type exchanges [api.LineExchanges]bool

// common returns the exchanges that another set has, too.
func (x exchanges) common(other exchanges) exchanges {
	for i := range x {
		x[i] = x[i] && other[i]
	}
	return x
}

// way is a way from the house: its lines, which exchanges it has left, and in which one it is. The way to the house has left none.
type way struct {
	lines []int
	left  exchanges
	at    int
}

// over returns the way that goes on over a line to an exchange.
func (w way) over(line, next int) way {
	w.lines = append(w.lines[:len(w.lines):len(w.lines)], line)
	w.left[w.at] = true
	w.at = next
	return w
}

func (w way) has(line int) bool { return slices.Contains(w.lines, line) }

// leadsBack reports whether a line joins the exchange where a way is with one that it has left.
func (n net) leadsBack(w way, line int) bool {
	return w.left.common(n.joined(line)) != exchanges{}
}

// ways are all ways from the house. Of those that have as many lines, the ones come first that come first compared element by element.
func (n net) ways() iter.Seq[way] {
	return func(yield func(way) bool) {
		var goOn func(way) bool
		goOn = func(w way) bool {
			if !yield(w) {
				return false
			}
			if len(w.lines) == n.Hops {
				return true
			}
		lines:
			for line, next := range n.leaving(w.at) {
				if n.leadsBack(w, line) {
					continue lines
				}
				if !goOn(w.over(line, next)) {
					return false
				}
			}
			return true
		}
		goOn(way{at: house})
	}
}

// delay returns between what the delay on a way lies, whatever the loops tell.
func (n net) delay(w way) api.Span {
	var spans []api.Span
	for _, i := range w.lines {
		spans = append(spans, n.Lines[i].Delay)
	}
	return added(spans)
}

// canBe returns between what the delay on a way lies that all loops fit; it is no span, if there is none.
func (n net) canBe(w way) api.Span {
	s := n.delay(w)
	for _, fit := range n.fits(w.at) {
		s = both(s, fit)
	}
	return s
}

func (n net) isRoute(w way) bool {
	s := n.canBe(w)
	return s.Low <= s.High
}

func isAny(way) bool { return true }

// key is an exchange, and how many lines lead there.
type key struct{ exchange, lines int }

// known are ways, in their order.
type known map[key][]way

// known returns the ways that are as they have to be.
func (n net) known(is func(way) bool) known {
	k := known{}
	for w := range n.ways() {
		if is(w) {
			there := key{w.at, len(w.lines)}
			k[there] = append(k[there], w)
		}
	}
	return k
}

// leading returns the known ways to an exchange, those of fewer lines first.
func (k known) leading(exchange int) []way {
	var list []way
	for lines := range api.LineExchanges {
		list = append(list, k[key{exchange, lines}]...)
	}
	return list[:len(list):len(list)]
}

func (n net) isReached(exchange int) bool {
	for w := range n.ways() {
		if w.at == exchange {
			return true
		}
	}
	return false
}
