package line

import (
	"slices"

	"remontoir/api"
)

// routes are all routes to an exchange, of which there is at least one.
type routes struct {
	net
	list []way
}

// newRoutes returns the routes to an exchange that is asked about, or the first error.
func newRoutes(n api.LineNet, exchange int) (routes, api.Errno) {
	x, e := newNet(n)
	if e != api.OK {
		return routes{}, e
	}
	if !x.isExchange(exchange) {
		return routes{}, api.ErrLineAsk
	}
	if !x.isReached(exchange) {
		return routes{}, api.ErrNone
	}
	r := routes{x, x.known(x.isRoute).leading(exchange)}
	if len(r.list) == 0 {
		return routes{}, api.ErrLineFalse
	}
	return r, api.OK
}

// lines returns the lines of each route.
func (r routes) lines() [][]int {
	var list [][]int
	for _, w := range r.list {
		list = append(list, w.lines[:len(w.lines):len(w.lines)])
	}
	return list[:len(list):len(list)]
}

// delays returns between what the delay on each route lies.
func (r routes) delays() []api.Span {
	var spans []api.Span
	for _, w := range r.list {
		spans = append(spans, r.canBe(w))
	}
	return spans[:len(spans):len(spans)]
}

// canTake reports whether a delay can be on some route; between two routes there can be such that can be on none.
func (r routes) canTake(delay int) bool {
	return slices.ContainsFunc(r.delays(), func(s api.Span) bool { return isIn(delay, s) })
}

// surely returns the lines that are on all routes.
func (r routes) surely() []int {
	var list []int
	for i := range r.Lines {
		if howMany(r.list, i) == len(r.list) {
			list = append(list, i)
		}
	}
	return list[:len(list):len(list)]
}

// howMany returns on how many of some routes a line is.
func howMany(list []way, line int) int {
	many := 0
	for _, w := range list {
		if w.has(line) {
			many++
		}
	}
	return many
}

// cut returns the exchanges on all of whose routes a line is, and those on only some of whose routes it is.
func (n net) cut(line int) (surely, perhaps []int) {
	k := n.known(n.isRoute)
	for exchange := range n.Exchanges {
		list := k.leading(exchange)
		switch howMany(list, line) {
		case 0: // first, because an exchange without a route is in neither list
		case len(list):
			surely = append(surely, exchange)
		default:
			perhaps = append(perhaps, exchange)
		}
	}
	return surely[:len(surely):len(surely)], perhaps[:len(perhaps):len(perhaps)]
}
