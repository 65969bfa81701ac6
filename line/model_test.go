package line_test

import (
	"math/rand"
	"slices"
	"testing"

	"remontoir/api"
	"remontoir/line"
)

// The model: lists of lines are lengthened by each line and kept if they are ways, as the chapter defines them; all delays on a way are marked, one by one; and every answer is counted out from the ways and the marks. Of small nets all lists of lines are looked at, and all delays of all lines.

func to(low, high int) api.Span { return api.Span{Low: low, High: high} }

func joins(one, other, low, high int) api.LineLine {
	return api.LineLine{From: one, To: other, Delay: to(low, high)}
}

func loop(exchange, low, high int) api.LineLoop {
	return api.LineLoop{Exchange: exchange, Read: to(low, high)}
}

// net is that of the chapter's examples; torn is the same one with a loop that contradicts another one.
func net() api.LineNet {
	return api.LineNet{
		Exchanges: 5, Hops: 3,
		Lines: []api.LineLine{joins(0, 1, 10, 12), joins(1, 2, 5, 6), joins(0, 2, 20, 30), joins(2, 3, 7, 7)},
		Loops: []api.LineLoop{loop(2, 36, 50), loop(3, 0, 100)},
	}
}

func torn() api.LineNet { return with(net(), loop(2, 70, 80)) }

// copied is a copy of a net that shares nothing with it.
func copied(n api.LineNet) api.LineNet {
	n.Lines, n.Loops = slices.Clone(n.Lines), slices.Clone(n.Loops)
	return n
}

// with is a net with loops more.
func with(n api.LineNet, loops ...api.LineLoop) api.LineNet {
	n = copied(n)
	n.Loops = append(n.Loops, loops...)
	return n
}

// joined is a net with lines more.
func joined(n api.LineNet, lines ...api.LineLine) api.LineNet {
	n = copied(n)
	n.Lines = append(n.Lines, lines...)
	return n
}

// hops is a net with other Hops.
func hops(n api.LineNet, many int) api.LineNet {
	n = copied(n)
	n.Hops = many
	return n
}

// without is a net from which some loops are left out.
func without(n api.LineNet, left []int) api.LineNet {
	loops := n.Loops
	n = copied(n)
	n.Loops = nil
	for i, l := range loops {
		if !slices.Contains(left, i) {
			n.Loops = append(n.Loops, l)
		}
	}
	return n
}

// cut is a net from which a line is taken.
func cut(n api.LineNet, number int) api.LineNet {
	n = copied(n)
	n.Lines = slices.Delete(n.Lines, number, number+1)
	return n
}

func within(n, low, high int) bool { return low <= n && n <= high }

func has(s api.Span, n int) bool { return within(n, s.Low, s.High) }

// over is where a line leads from an exchange; -1, if it does not join that one.
func over(l api.LineLine, at int) int {
	switch at {
	case l.From:
		return l.To
	case l.To:
		return l.From
	}
	return -1
}

// end is the exchange in which a list of lines ends; -1, if it is no way.
func end(n api.LineNet, lines []int) int {
	been := []int{0}
	for _, i := range lines {
		next := over(n.Lines[i], been[len(been)-1])
		if next < 0 || slices.Contains(been, next) || len(been) > n.Hops {
			return -1
		}
		been = append(been, next)
	}
	return been[len(been)-1]
}

// waysOf are all ways, to any exchange: the shorter ones first, and those of a length in their order.
func waysOf(n api.LineNet) [][]int {
	list := [][]int{nil}
	for i := 0; i < len(list); i++ {
		for k := range n.Lines {
			if longer := append(slices.Clone(list[i]), k); end(n, longer) >= 0 {
				list = append(list, longer)
			}
		}
	}
	return list
}

// listed are all ways of a small net, out of all lists of lines.
func listed(n api.LineNet) [][]int {
	all := [][]int{nil}
	for i := 0; i < len(all); i++ {
		if len(all[i]) == n.Hops {
			break
		}
		for k := range n.Lines {
			all = append(all, append(slices.Clone(all[i]), k))
		}
	}
	return slices.DeleteFunc(all, func(lines []int) bool { return end(n, lines) < 0 })
}

// marks are numbers from 0 on, each marked or not.
type marks []bool

// summed marks the sums of each marked number and each number of a span.
func (m marks) summed(s api.Span) marks {
	turns := make([]int, len(m)+s.High+1) // by how many more marks a number is reached than the one before
	for i, is := range m {
		if is {
			turns[i+s.Low]++
			turns[i+s.High+1]--
		}
	}
	sums := make(marks, len(m)+s.High)
	now := 0
	for i := range sums {
		now += turns[i]
		sums[i] = now > 0
	}
	return sums
}

// onWay are the delays on a way, whatever the loops tell.
func onWay(n api.LineNet, way []int) marks {
	m := marks{true}
	for _, i := range way {
		m = m.summed(n.Lines[i].Delay)
	}
	return m
}

// listedOnWay are the delays on a way of a small net, out of all delays of its lines.
func listedOnWay(n api.LineNet, way []int) marks {
	m := marks{}
	var next func(left []int, delay int)
	next = func(left []int, delay int) {
		if len(left) == 0 {
			m = m.and(delay)
			return
		}
		s := n.Lines[left[0]].Delay
		for d := s.Low; d <= s.High; d++ {
			next(left[1:], delay+d)
		}
	}
	next(way, 0)
	return m
}

// and marks a number more.
func (m marks) and(n int) marks {
	for len(m) <= n {
		m = append(m, false)
	}
	m[n] = true
	return m
}

// all are the numbers that are marked.
func (m marks) all() []int {
	var list []int
	for i, is := range m {
		if is {
			list = append(list, i)
		}
	}
	return list
}

// fit reports whether all loops to an exchange fit a delay.
func fit(n api.LineNet, exchange, delay int) bool {
	return !slices.ContainsFunc(n.Loops, func(l api.LineLoop) bool { return l.Exchange == exchange && !has(l.Read, 2*delay) })
}

// model is what is told of an exchange: whether it can be reached, its routes, and the delays that can be.
type model struct {
	reached bool
	routes  [][]int
	delays  []int
}

// modelsOf are the models of all exchanges, by ways and the delays on them.
func modelsOf(n api.LineNet, ways [][]int, on func(api.LineNet, []int) marks) []model {
	list := make([]model, n.Exchanges)
	can := make([]marks, n.Exchanges)
	for _, way := range ways {
		at := end(n, way)
		list[at].reached = true
		isRoute := false
		for _, delay := range on(n, way).all() {
			if fit(n, at, delay) {
				isRoute = true
				can[at] = can[at].and(delay)
			}
		}
		if isRoute {
			list[at].routes = append(list[at].routes, way)
		}
	}
	for i, m := range can {
		list[i].delays = m.all()
	}
	return list
}

// error is the one that is told of an exchange.
func (m model) error() api.Errno {
	switch {
	case !m.reached:
		return api.ErrNone
	case len(m.routes) == 0:
		return api.ErrLineFalse
	}
	return api.OK
}

// span is from the least to the greatest delay.
func (m model) span() api.Span { return to(m.delays[0], m.delays[len(m.delays)-1]) }

// offBy is by how much a signal is off at most that is sent so much sooner.
func (m model) offBy(sooner int) int {
	off := 0
	for _, delay := range m.delays {
		off = max(off, delay-sooner, sooner-delay)
	}
	return off
}

// correct is the best number, out of all of them.
func (m model) correct() (sooner, off int) {
	off = m.offBy(0)
	for n := range m.span().High {
		if by := m.offBy(n + 1); by < off {
			sooner, off = n+1, by
		}
	}
	return sooner, off
}

// on is on how many routes a line is.
func (m model) on(line int) int {
	many := 0
	for _, way := range m.routes {
		if slices.Contains(way, line) {
			many++
		}
	}
	return many
}

// surely are the lines that are on all routes.
func (m model) surely(n api.LineNet) []int {
	var list []int
	for i := range n.Lines {
		if m.on(i) == len(m.routes) {
			list = append(list, i)
		}
	}
	return list
}

// cutting are the exchanges on all of whose routes a line is, and those on some of whose routes alone it is.
func cutting(all []model, line int) (surely, perhaps []int) {
	for i, m := range all {
		if len(m.routes) == 0 {
			continue
		}
		if on := m.on(line); on == len(m.routes) {
			surely = append(surely, i)
		} else if on > 0 {
			perhaps = append(perhaps, i)
		}
	}
	return surely, perhaps
}

// sets are all sets of so many loops, each with its list: the shorter lists first, and those of a length in their order.
func sets(many int) [][]int {
	var all [][]int
	for bits := range 1 << many {
		var list []int
		for i := range many {
			if bits>>i&1 == 1 {
				list = append(list, i)
			}
		}
		all = append(all, list)
	}
	slices.SortFunc(all, func(a, b []int) int {
		if len(a) != len(b) {
			return len(a) - len(b)
		}
		return slices.Compare(a, b)
	})
	return all
}

// misfits are, of each exchange, all sets of loops to it that one of its delays does not fit; of one that is not reached, that of all its loops. A set is told by bits.
func misfits(n api.LineNet, ways [][]int) []map[int]bool {
	list := make([]map[int]bool, n.Exchanges)
	for at := range list {
		list[at] = map[int]bool{misfit(n, at, -1): true}
	}
	for _, way := range ways {
		at := end(n, way)
		for _, delay := range onWay(n, way).all() {
			list[at][misfit(n, at, delay)] = true
		}
	}
	return list
}

// misfit are the loops to an exchange that a delay does not fit.
func misfit(n api.LineNet, exchange, delay int) int {
	bits := 0
	for i, l := range n.Loops {
		if l.Exchange == exchange && !has(l.Read, 2*delay) {
			bits |= 1 << i
		}
	}
	return bits
}

// fewest are the fewest loops without which a net can be true, out of all sets of loops.
func fewest(n api.LineNet, ways [][]int) []int {
	of := misfits(n, ways)
	all := sets(len(n.Loops))
	return all[slices.IndexFunc(all, func(set []int) bool {
		bits := 0
		for _, i := range set {
			bits |= 1 << i
		}
		return !slices.ContainsFunc(of, func(misfits map[int]bool) bool {
			for m := range misfits {
				if m&^bits == 0 {
					return false
				}
			}
			return true
		})
	})]
}

// canBeTrue reports whether a net can be true.
func canBeTrue(n api.LineNet) bool {
	all := modelsOf(n, waysOf(n), onWay)
	return !slices.ContainsFunc(all, func(m model) bool { return m.error() == api.ErrLineFalse }) &&
		!slices.ContainsFunc(n.Loops, func(l api.LineLoop) bool { return !all[l.Exchange].reached })
}

// story is on which way a signal reaches an exchange, and how long that takes it.
type story struct {
	exchange int
	way      []int
	delay    int
}

// size is how great a drawn net is at most.
type size struct{ exchanges, lines, delay, wide, loops int }

// drawnNet is a net that is drawn, without loops.
func drawnNet(r *rand.Rand, z size) api.LineNet {
	n := api.LineNet{Exchanges: 1 + r.Intn(z.exchanges), Hops: 1 + r.Intn(api.LineExchanges-1)}
	if r.Intn(3) > 0 {
		n.Exchanges, n.Hops = z.exchanges, max(n.Hops, 3)
	}
	if n.Exchanges == 1 {
		return n
	}
	for range r.Intn(z.lines/2+1) + z.lines/2 {
		one := r.Intn(n.Exchanges)
		other := (one + 1 + r.Intn(n.Exchanges-1)) % n.Exchanges
		low := r.Intn(z.delay + 1)
		n.Lines = append(n.Lines, joins(one, other, low, min(low+r.Intn(z.wide+1), api.LineDelay)))
	}
	return n
}

// stories are drawn: one for each exchange that can be reached.
func stories(r *rand.Rand, n api.LineNet) []story {
	var list []story
	ways := waysOf(n)
	r.Shuffle(len(ways), func(i, j int) { ways[i], ways[j] = ways[j], ways[i] })
	for exchange := range n.Exchanges {
		i := slices.IndexFunc(ways, func(way []int) bool { return end(n, way) == exchange })
		if i < 0 {
			continue
		}
		s := story{exchange: exchange, way: ways[i]}
		for _, k := range s.way {
			d := n.Lines[k].Delay
			s.delay += d.Low + r.Intn(d.High-d.Low+1)
		}
		list = append(list, s)
	}
	return list
}

// measured is a loop that fits a delay; it tells no more than so much.
func measured(r *rand.Rand, exchange, delay, wide int) api.LineLoop {
	return loop(exchange, max(2*delay-r.Intn(wide+1), 0), min(2*delay+r.Intn(wide+1), 12000))
}

// sample is a net with a story of each exchange, which all its loops fit.
type sample struct {
	n       api.LineNet
	stories []story
}

// sizes are those of drawn nets: small ones, some whose lines delay much the same, and ones up to the limits.
func sizes() []size {
	return []size{{4, 5, 4, 3, 4}, {5, 7, 30, 4, 6}, {7, 12, 60, 10, 10}, {7, 12, 1000, 1000, 10}, {3, 12, 9, 2, 10}, {2, 4, 6, 1, 10}}
}

func drawnSample(r *rand.Rand, z size) sample {
	x := sample{n: drawnNet(r, z)}
	x.stories = stories(r, x.n)
	for range r.Intn(z.loops + 1) {
		s := x.stories[r.Intn(len(x.stories))]
		x.n.Loops = append(x.n.Loops, measured(r, s.exchange, s.delay, []int{0, 1, z.wide, 4 * z.delay}[r.Intn(4)]))
	}
	return x
}

// samples are drawn ones, always the same.
func samples(count int) []sample {
	r := rand.New(rand.NewSource(61))
	var list []sample
	for i := range count {
		list = append(list, drawnSample(r, sizes()[i%len(sizes())]))
	}
	return list
}

// many are drawn nets, always the same ones; in each second one some loops fit no story, or lead to exchanges that are not reached.
func many(count int) []api.LineNet {
	r := rand.New(rand.NewSource(62))
	var list []api.LineNet
	for i := 0; len(list) < count; i++ {
		x := drawnSample(r, sizes()[i%len(sizes())])
		n := copied(x.n)
		for range r.Intn(api.LineLoops + 1 - len(n.Loops)) {
			wrong := x.stories[r.Intn(len(x.stories))].delay + r.Intn(21) - 10
			n.Loops = append(n.Loops, measured(r, r.Intn(n.Exchanges), max(wrong, 0), 1+r.Intn(6)))
		}
		r.Shuffle(len(n.Loops), func(i, j int) { n.Loops[i], n.Loops[j] = n.Loops[j], n.Loops[i] })
		list = append(list, x.n, n)
	}
	return list[:count]
}

// small are drawn nets of which all lists of lines, and all delays of lines, can be looked at.
func small(count int) []api.LineNet {
	r := rand.New(rand.NewSource(63))
	var list []api.LineNet
	for len(list) < count {
		x := drawnSample(r, size{4, 5, 5, 3, 3})
		x.n.Hops = min(x.n.Hops, 4)
		for range r.Intn(3) {
			x.n.Loops = append(x.n.Loops, measured(r, r.Intn(x.n.Exchanges), r.Intn(12), 3))
		}
		list = append(list, x.n)
	}
	return list
}

// good returns a result that comes without an error.
func good[T any](t *testing.T, what string) func(T, api.Errno) T {
	t.Helper()
	return func(x T, e api.Errno) T {
		t.Helper()
		if e != api.OK {
			t.Fatalf("%s: error %d", what, e)
		}
		return x
	}
}

// same reports whether two lists of lists are the same ones.
func same(a, b [][]int) bool {
	return slices.EqualFunc(a, b, func(x, y []int) bool { return slices.Equal(x, y) })
}

// routesTo are the routes that are told; none, if the exchange has none or is not reached.
func routesTo(t *testing.T, n api.LineNet, exchange int) [][]int {
	t.Helper()
	list, e := line.Routes(n, exchange)
	if e != api.OK && e != api.ErrNone && e != api.ErrLineFalse {
		t.Fatalf("Routes: error %d", e)
	}
	return list
}

// wrong are the loops that are told to be wrong.
func wrong(t *testing.T, n api.LineNet) []int {
	t.Helper()
	return good[[]int](t, "Wrong")(line.Wrong(n))
}
