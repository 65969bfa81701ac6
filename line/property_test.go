package line_test

import (
	"math"
	"math/rand"
	"reflect"
	"slices"
	"testing"

	"remontoir/api"
	"remontoir/line"
)

// isAmong reports whether all of some lists are among others.
func isAmong(some, others [][]int) bool {
	return !slices.ContainsFunc(some, func(list []int) bool {
		return !slices.ContainsFunc(others, func(other []int) bool { return slices.Equal(list, other) })
	})
}

// can are the delays that can be to an exchange, out of as many as are asked about.
func can(t *testing.T, n api.LineNet, exchange int) []int {
	t.Helper()
	var list []int
	s, _ := line.Delay(n, exchange)
	if len(routesTo(t, n, exchange)) == 0 {
		return nil
	}
	for delay := s.Low; delay <= s.High; delay += 1 + s.High/100 {
		if good[bool](t, "Can")(line.Can(n, exchange, delay)) {
			list = append(list, delay)
		}
	}
	return list
}

// P6.8: whatever way a signal takes, and however long that takes it, it is told; both ends that are told can be.
func TestLine(t *testing.T) {
	for i, x := range samples(200) {
		for _, s := range x.stories {
			if !isAmong([][]int{s.way}, routesTo(t, x.n, s.exchange)) {
				t.Errorf("net %d: %v is no route to %d", i, s.way, s.exchange)
			}
			told := good[api.Span](t, "Delay")(line.Delay(x.n, s.exchange))
			if !has(told, s.delay) {
				t.Errorf("net %d: the delay %d to %d is not in %v", i, s.delay, s.exchange, told)
			}
			for delay, want := range map[int]bool{s.delay: true, told.Low: true, told.High: true, told.Low - 1: false, told.High + 1: false} {
				if is := good[bool](t, "Can")(line.Can(x.n, s.exchange, delay)); is != want {
					t.Errorf("net %d: %d to %d: %v", i, delay, s.exchange, is)
				}
			}
		}
		if l := wrong(t, x.n); len(l) != 0 {
			t.Errorf("net %d: %v are wrong, but all of them were measured rightly", i, l)
		}
	}
}

// P6.9: a signal is off by no more than is told, and by as much for a delay that can be; with no other number by less, and with none before by as little.
func TestCorrection(t *testing.T) {
	for i, x := range samples(200) {
		for _, s := range x.stories {
			sooner, off, e := line.Correct(x.n, s.exchange)
			told := good[api.Span](t, "Delay")(line.Delay(x.n, s.exchange))
			if e != api.OK || sooner < 0 || max(s.delay-sooner, sooner-s.delay) > off {
				t.Errorf("net %d: %d sooner to %d, off by %d, with the delay %d; %d", i, sooner, s.exchange, off, s.delay, e)
			}
			if !slices.ContainsFunc([]int{told.Low, told.High}, func(delay int) bool { return max(delay-sooner, sooner-delay) == off }) {
				t.Errorf("net %d: to %d no signal is off by %d", i, s.exchange, off)
			}
			for by := 1; by < 2000; by *= 3 {
				before, behind := sooner-by, sooner+by
				if max(told.High-before, before-told.Low) <= off || max(told.High-behind, behind-told.Low) < off {
					t.Errorf("net %d: to %d %d is as good as %d, or %d better", i, s.exchange, before, sooner, behind)
				}
			}
		}
	}
}

// P6.10: with a loop more no route is new, and no delay that could not be can be.
func TestLoopMore(t *testing.T) {
	r := rand.New(rand.NewSource(65))
	fewer := 0
	for i, n := range many(150) {
		if len(n.Loops) == api.LineLoops {
			continue
		}
		exchange := r.Intn(n.Exchanges)
		told, _ := line.Delay(n, exchange)
		more := with(n, measured(r, exchange, told.Low+r.Intn(told.High-told.Low+1), 3))
		for k := range n.Exchanges {
			before, after := routesTo(t, n, k), routesTo(t, more, k)
			if !isAmong(after, before) || k != exchange && !same(after, before) {
				t.Errorf("net %d: the routes %v to %d, with %v", i, after, k, more.Loops)
			}
			fewer += len(before) - len(after)
		}
		for _, delay := range can(t, more, exchange) {
			if !good[bool](t, "Can")(line.Can(n, exchange, delay)) {
				t.Errorf("net %d: the delay %d to %d can be with a loop more", i, delay, exchange)
			}
		}
	}
	if fewer < 30 {
		t.Errorf("only %d routes fewer", fewer)
	}
}

// widened is a span that goes on to both sides, as far as it may.
func widened(s api.Span, by, most int) api.Span { return to(max(s.Low-by, 0), min(s.High+by, most)) }

// greater are nets in each of which one thing is more, or told less sharply.
func greater(n api.LineNet, by int) []api.LineNet {
	delay, read, lines, more := copied(n), copied(n), copied(n), hops(n, min(n.Hops+1, 6))
	for i, l := range n.Lines {
		delay.Lines[i].Delay = widened(l.Delay, by, 1000)
	}
	for i, l := range n.Loops {
		read.Loops[i].Read = widened(l.Read, by, 12000)
	}
	if n.Exchanges > 1 && len(n.Lines) < api.LineLines {
		lines = joined(n, joins(by%n.Exchanges, (by+1)%n.Exchanges, by, by))
	}
	return []api.LineNet{delay, read, lines, more}
}

// P6.10: with a wider Delay or a wider Read, a line more, or more Hops, each route stays one, and no delay is lost.
func TestMoreRoutes(t *testing.T) {
	more := 0
	for i, n := range many(120) {
		for by := 1; by < 1000; by *= 9 {
			for j, g := range greater(n, by) {
				for exchange := range n.Exchanges {
					before, after := routesTo(t, n, exchange), routesTo(t, g, exchange)
					if !isAmong(before, after) {
						t.Errorf("net %d: the routes to %d, more as %d by %d: %v instead of %v", i, exchange, j, by, after, before)
					}
					more += len(after) - len(before)
				}
				exchange := (i + by) % n.Exchanges
				for _, delay := range can(t, n, exchange) {
					if !good[bool](t, "Can")(line.Can(g, exchange, delay)) {
						t.Errorf("net %d: the delay %d to %d cannot be, more as %d by %d", i, delay, exchange, j, by)
					}
				}
			}
		}
	}
	if more < 100 {
		t.Errorf("only %d routes more", more)
	}
}

// P6.11: a line that is told is on each route; without it there is no route, and without another one there still is.
func TestCutLines(t *testing.T) {
	lost, left := 0, 0
	for i, n := range many(150) {
		for number := range n.Lines {
			surely, perhaps, e := line.Cut(n, number)
			if e != api.OK {
				t.Fatalf("net %d: Cut: %d", i, e)
			}
			for exchange := range n.Exchanges {
				if len(routesTo(t, n, exchange)) == 0 {
					if slices.Contains(surely, exchange) || slices.Contains(perhaps, exchange) {
						t.Errorf("net %d: without a route to %d something is told of it", i, exchange)
					}
					continue
				}
				onAll := slices.Contains(good[[]int](t, "Surely")(line.Surely(n, exchange)), number)
				after := routesTo(t, cut(n, number), exchange)
				if onAll != slices.Contains(surely, exchange) || onAll != (len(after) == 0) {
					t.Errorf("net %d: the line %d to %d: on all routes: %v, then: %v", i, number, exchange, onAll, after)
				}
				if fewer := len(after) < len(routesTo(t, n, exchange)); !onAll && fewer != slices.Contains(perhaps, exchange) {
					t.Errorf("net %d: the line %d to %d: on some routes: %v", i, number, exchange, fewer)
				}
			}
			lost, left = lost+len(surely), left+len(perhaps)
		}
	}
	if lost < 100 || left < 100 {
		t.Errorf("only %d exchanges lost, and %d perhaps", lost, left)
	}
}

// only is a net with the loops to one exchange alone.
func only(n api.LineNet, exchange int) api.LineNet {
	var others []int
	for i, l := range n.Loops {
		if l.Exchange != exchange {
			others = append(others, i)
		}
	}
	return without(n, others)
}

// P6.12: without the loops that are told the net can be true, without fewer or ones before them it cannot.
func TestLoopsThatMustBeWrong(t *testing.T) {
	for i, n := range many(150) {
		list := wrong(t, n)
		if left := without(n, list); !canBeTrue(left) || len(wrong(t, left)) != 0 {
			t.Errorf("net %d: it cannot be true without %v", i, list)
		}
		if len(n.Loops) > 6 {
			continue
		}
		for _, set := range sets(len(n.Loops)) {
			if slices.Equal(set, list) {
				break
			}
			if canBeTrue(without(n, set)) || len(wrong(t, without(n, set))) == 0 {
				t.Errorf("net %d: without %v instead of %v it can be true", i, set, list)
			}
		}
	}
}

// P6.12: loops to different exchanges never make each other wrong.
func TestLoopsToOtherExchanges(t *testing.T) {
	lies := 0
	for i, n := range many(150) {
		var all []int
		for exchange := range n.Exchanges {
			var own []int // which loop of the net each one to the exchange is
			for k, l := range n.Loops {
				if l.Exchange == exchange {
					own = append(own, k)
				}
			}
			for _, k := range wrong(t, only(n, exchange)) {
				all = append(all, own[k])
			}
		}
		slices.Sort(all)
		if l := wrong(t, n); !slices.Equal(l, all) {
			t.Errorf("net %d: %v instead of %v", i, l, all)
		}
		lies += len(all)
	}
	if lies < 60 {
		t.Errorf("only %d wrong loops", lies)
	}
}

// numbered is a net whose exchanges are numbered otherwise, and some of whose lines have their ends exchanged.
func numbered(r *rand.Rand, n api.LineNet, number []int) api.LineNet {
	n = copied(n)
	for i, l := range n.Lines {
		n.Lines[i].From, n.Lines[i].To = number[l.From], number[l.To]
		if r.Intn(2) == 0 {
			n.Lines[i].From, n.Lines[i].To = n.Lines[i].To, n.Lines[i].From
		}
	}
	for i, l := range n.Loops {
		n.Loops[i].Exchange = number[l.Exchange]
	}
	return n
}

// numbers are the numbers of exchanges, the house's first and the other ones shuffled.
func numbers(r *rand.Rand, many int) []int {
	list := []int{0}
	for _, n := range r.Perm(many - 1) {
		list = append(list, n+1)
	}
	return list
}

// P6.13: if the ends of lines are exchanged, and exchanges are numbered otherwise, the same is told of each.
func TestOtherNumbers(t *testing.T) {
	r := rand.New(rand.NewSource(66))
	for i, n := range many(150) {
		number := numbers(r, n.Exchanges)
		other := numbered(r, n, number)
		for exchange, k := range number {
			for _, delay := range []int{0, 1, r.Intn(50), r.Intn(1000)} {
				if a, b := byExchange(n, exchange, delay), byExchange(other, k, delay); !reflect.DeepEqual(a, b) {
					t.Errorf("net %d: %v, and of the exchange %d, once %d: %v", i, a, k, exchange, b)
				}
			}
			if a, b := routesTo(t, n, exchange), routesTo(t, other, k); !same(a, b) {
				t.Errorf("net %d: %v, and then %v", i, a, b)
			}
		}
		for of := range n.Lines {
			a1, b1, e1 := line.Cut(n, of)
			a2, b2, e2 := line.Cut(other, of)
			if !slices.Equal(renamed(a1, number), a2) || !slices.Equal(renamed(b1, number), b2) || e1 != e2 {
				t.Errorf("net %d: Cut of %d: %v, %v, %d, and then %v, %v, %d", i, of, a1, b1, e1, a2, b2, e2)
			}
		}
		if a, b := wrong(t, n), wrong(t, other); !slices.Equal(a, b) {
			t.Errorf("net %d: Wrong: %v, and then %v", i, a, b)
		}
	}
}

// renamed are exchanges by their other numbers, increasing.
func renamed(list, number []int) []int {
	var others []int
	for _, n := range list {
		others = append(others, number[n])
	}
	slices.Sort(others)
	return others
}

// callAll calls all functions.
func callAll(n api.LineNet, exchange, number int) {
	line.Check(n)
	byExchange(n, exchange, number)
	line.Cut(n, number)
	line.Wrong(n)
}

// roomy is a net whose lists have room behind them, in which something lies.
func roomy(n api.LineNet) api.LineNet {
	n = joined(with(n, loop(3, 1, 2), loop(2, 3, 4)), joins(3, 1, 5, 6), joins(4, 1, 7, 8))
	n.Lines, n.Loops = n.Lines[:len(n.Lines)-2], n.Loops[:len(n.Loops)-2]
	return n
}

// whole is a net with all that lies behind its lists.
func whole(n api.LineNet) api.LineNet {
	n.Lines, n.Loops = n.Lines[:cap(n.Lines)], n.Loops[:cap(n.Loops)]
	return copied(n)
}

// P6.7: arguments are not changed, nor is what lies behind their lists.
func TestArgumentsAreOnlyRead(t *testing.T) {
	for i, n := range []api.LineNet{roomy(net()), roomy(torn()), roomy(with(torn(), loop(4, 3, 3)))} {
		before := whole(n)
		for k := -1; k < 6; k++ {
			callAll(n, k, 5-k)
		}
		if !reflect.DeepEqual(whole(n), before) {
			t.Errorf("net %d has changed: %v instead of %v", i, whole(n), before)
		}
	}
}

// lists are all lists that are told of a net.
func lists(t *testing.T, n api.LineNet) [][]int {
	t.Helper()
	all := [][]int{wrong(t, n)}
	for number := range n.Lines {
		surely, perhaps, _ := line.Cut(n, number)
		all = append(all, surely, perhaps)
	}
	for exchange := range n.Exchanges {
		surely, _ := line.Surely(n, exchange)
		all = append(append(all, surely), routesTo(t, n, exchange)...)
	}
	return all
}

// P6.7: results are new memory: no two of them share any, not behind their lists either, and none is kept.
func TestResultsAreNew(t *testing.T) {
	for _, n := range []api.LineNet{net(), with(torn(), loop(4, 3, 3)), fullNet(), wideNet()} {
		first, second := lists(t, n), lists(t, n)
		for i, list := range first {
			whole := list[:cap(list)]
			for k := range whole {
				whole[k] = -7
			}
			if !same(first[i+1:], second[i+1:]) {
				t.Fatalf("the list %d shares memory with a later one", i)
			}
		}
		if third := lists(t, n); !same(second, third) {
			t.Errorf("a result was kept: %v instead of %v", third, second)
		}
		list := good[[][]int](t, "Routes")(line.Routes(n, 3))
		clear(list[:cap(list)])
		if again := good[[][]int](t, "Routes")(line.Routes(n, 3)); slices.ContainsFunc(again, func(way []int) bool { return len(way) == 0 }) {
			t.Errorf("the list of routes was kept: %v", again)
		}
	}
}

// P6.7: arguments are not retained: when they change, what was told stays.
func TestArgumentsAreNotKept(t *testing.T) {
	n := with(torn(), loop(4, 3, 3))
	told := lists(t, n)
	before := lists(t, n)
	clear(n.Lines)
	clear(n.Loops)
	if !same(told, before) {
		t.Errorf("a result has changed with an argument: %v", told)
	}
}

// R3: between a nil list and an empty one there is no difference.
func TestNilAndEmpty(t *testing.T) {
	for _, n := range []api.LineNet{alone(), apart(), {Exchanges: 7, Hops: 6}} {
		empty := n
		empty.Lines, empty.Loops = []api.LineLine{}, []api.LineLoop{}
		if line.Check(empty) != api.OK || !same(lists(t, n), lists(t, empty)) {
			t.Error("an empty list is not like none")
		}
		for exchange := range 8 {
			if a, b := byExchange(n, exchange, 0), byExchange(empty, exchange, 0); !reflect.DeepEqual(a, b) {
				t.Errorf("an empty list is not like none: %v, %v", a, b)
			}
		}
	}
}

// P1: no function panics, whatever it gets.
func TestAnyArguments(t *testing.T) {
	list := slices.Concat(many(12), small(6), []api.LineNet{net(), torn(), pair(), alone(), apart(), fullNet()})
	for _, nets := range []map[string]api.LineNet{wrongNets(), falseNets()} {
		for _, n := range nets {
			list = append(list, n)
		}
	}
	all := []int{math.MinInt, math.MinInt + 1, -12001, -2, -1, 0, 1, 2, 3, 5, 6, 7, 11, 12, 13, 1001, 12001, math.MaxInt - 1, math.MaxInt}
	for i, n := range all {
		m := all[(i+7)%len(all)]
		list = append(list, api.LineNet{Exchanges: n, Hops: m}, api.LineNet{Exchanges: 7, Hops: n}, hops(net(), m), joined(net(), joins(n, m, 0, 1)), joined(net(), joins(0, n, n, m)), joined(net(), joins(0, 4, n, m)), with(net(), loop(n, m, m)), with(net(), loop(0, n, m)), api.LineNet{Exchanges: n, Hops: m, Lines: slices.Repeat([]api.LineLine{joins(n, m, n, m)}, 30), Loops: slices.Repeat([]api.LineLoop{loop(m, n, m)}, 30)})
	}
	for _, n := range list {
		for i, exchange := range all {
			callAll(n, exchange, all[(i+4)%len(all)])
			callAll(n, i%7, exchange)
		}
	}
}

// P2: the same arguments have the same result, whatever was called before.
func TestSameResults(t *testing.T) {
	nets := many(80)
	var first [][][]int
	var calls [][]asked
	for _, n := range nets {
		first = append(first, lists(t, n))
		calls = append(calls, byExchange(n, n.Exchanges-1, 20))
	}
	for i := len(nets) - 1; i >= 0; i-- {
		if now := lists(t, nets[i]); !same(now, first[i]) || !reflect.DeepEqual(byExchange(nets[i], nets[i].Exchanges-1, 20), calls[i]) {
			t.Errorf("net %d: %v, and then %v", i, first[i], now)
		}
	}
}
