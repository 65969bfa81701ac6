package line

import (
	"iter"

	"remontoir/api"
)

// house is the exchange from which all signals come.
const house = 0

// longestRead is the longest that a loop can have taken: there and back over as many lines as there can be.
const longestRead = 2 * (api.LineExchanges - 1) * api.LineDelay

// net is a valid net.
type net struct{ api.LineNet }

// newNet returns a net in the calculation, or ErrLine.
func newNet(n api.LineNet) (net, api.Errno) {
	x := net{n}
	if !within(n.Exchanges, 1, api.LineExchanges) || !within(n.Hops, 1, api.LineExchanges-1) ||
		!areAll(n.Lines, api.LineLines, x.isLine) || !areAll(n.Loops, api.LineLoops, x.isLoop) {
		return net{}, api.ErrLine
	}
	return x, api.OK
}

func (n net) isExchange(exchange int) bool { return within(exchange, 0, n.Exchanges-1) }

func (n net) isLine(l api.LineLine) bool {
	return n.isExchange(l.From) && n.isExchange(l.To) && l.From != l.To && isSpan(l.Delay, api.LineDelay)
}

func (n net) isLoop(l api.LineLoop) bool {
	return n.isExchange(l.Exchange) && isSpan(l.Read, longestRead)
}

// The ends of a line.
const (
	from = iota
	to
)

// otherEnd is the other end, for each of them.
var otherEnd = [...]int{from: to, to: from}

// line is one of a net.
type line struct{ api.LineLine }

func (l line) from() int { return l.From }

func (l line) to() int { return l.To }

// ends tell in which exchange each end of a line is.
func ends() [2]func(line) int { return [...]func(line) int{from: line.from, to: line.to} }

// leaving are the lines that leave an exchange, each with the exchange to which it leads.
func (n net) leaving(exchange int) iter.Seq2[int, int] {
	return func(yield func(int, int) bool) {
		for i, l := range n.Lines {
			for end, of := range ends() {
				if of(line{l}) == exchange && !yield(i, ends()[otherEnd[end]](line{l})) {
					return
				}
			}
		}
	}
}

// joined returns the exchanges that a line joins.
func (n net) joined(number int) exchanges {
	var x exchanges
	for _, of := range ends() {
		x[of(line{n.Lines[number]})] = true
	}
	return x
}

// fits are the loops to an exchange, each with between what the delays lie that it fits, which can be no span: an odd Read is twice no delay.
func (n net) fits(exchange int) iter.Seq2[int, api.Span] {
	return func(yield func(int, api.Span) bool) {
		for i, l := range n.Loops {
			fit := api.Span{Low: (l.Read.Low + 1) / 2, High: l.Read.High / 2}
			if l.Exchange == exchange && !yield(i, fit) {
				return
			}
		}
	}
}
