package line_test

import (
	"math"
	"math/rand"
	"slices"
	"testing"

	"remontoir/api"
	"remontoir/line"
)

// fullNet is as great as a net can be.
func fullNet() api.LineNet {
	n := api.LineNet{Exchanges: 7, Hops: 6}
	for i := range 6 { // two lines between each exchange and the next one
		n.Lines = append(n.Lines, joins(i, i+1, 0, 1000), joins(i+1, i, 1000, 1000))
	}
	for i := range 10 {
		n.Loops = append(n.Loops, loop(i%7, 0, 12000))
	}
	return n
}

// wideNet is one with as many ways as can be found easily: all of five exchanges are joined, with another one or two behind them.
func wideNet() api.LineNet {
	n := api.LineNet{Exchanges: 7, Hops: 6}
	for one := range 5 {
		for other := range one {
			n.Lines = append(n.Lines, joins(other, one, one*100, 1000))
		}
	}
	n.Lines = append(n.Lines, joins(5, 4, 0, 1000), joins(6, 5, 7, 7))
	for i := range 10 {
		n.Loops = append(n.Loops, loop(6, 900*i, 900*i+100))
	}
	return n
}

// pair is a net of two lines between the same exchanges.
func pair(loops ...api.LineLoop) api.LineNet {
	return api.LineNet{Exchanges: 2, Hops: 2, Lines: []api.LineLine{joins(1, 0, 3, 4), joins(0, 1, 9, 9)}, Loops: loops}
}

// alone is a net of the house alone.
func alone(loops ...api.LineLoop) api.LineNet {
	return api.LineNet{Exchanges: 1, Hops: 1, Loops: loops}
}

// apart is a net of the house and another exchange, that only such lines join.
func apart(lines ...api.LineLine) api.LineNet {
	return api.LineNet{Exchanges: 2, Hops: 1, Lines: lines}
}

// changed is the chapter's net with one change.
func changed(change func(n *api.LineNet)) api.LineNet {
	n := net()
	change(&n)
	return n
}

// wrongSpans are none that lie from 0 to a number.
func wrongSpans(most int) map[string]api.Span {
	return map[string]api.Span{
		"below 0": to(-1, 5), "wholly below 0": to(-5, -1), "too high": to(0, most+1), "behind": to(most+1, most+1), "turned round": to(1, 0), "wholly turned round": to(most, 0),
		"far too low": to(math.MinInt, 0), "far too high": to(0, math.MaxInt), "far turned round": to(math.MaxInt, math.MinInt), "of all numbers": to(math.MinInt, math.MaxInt),
	}
}

// wrongNets are nets that are not valid, each by one thing.
func wrongNets() map[string]api.LineNet {
	list := map[string]api.LineNet{
		"none":     {},
		"13 lines": joined(net(), slices.Repeat([]api.LineLine{joins(0, 1, 0, 0)}, 9)...),
		"11 loops": with(net(), slices.Repeat([]api.LineLoop{loop(0, 0, 0)}, 9)...),
	}
	for name, no := range map[string]int{"0": 0, "-1": -1, "8": 8, "all": math.MaxInt, "the least": math.MinInt} {
		list["exchanges: "+name] = changed(func(n *api.LineNet) { *n = alone(); n.Exchanges = no })
	}
	for name, no := range map[string]int{"0": 0, "-1": -1, "7": 7, "all": math.MaxInt, "the least": math.MinInt} {
		list["hops: "+name] = hops(net(), no)
	}
	for name, no := range map[string]int{"-1": -1, "5": 5, "7": 7, "all": math.MaxInt, "the least": math.MinInt} {
		list["a line from "+name] = joined(net(), joins(no, 1, 0, 0))
		list["a line to "+name] = joined(net(), joins(0, no, 0, 0))
		list["a loop to "+name] = with(net(), loop(no, 0, 12000))
	}
	for i, name := range []string{"house", "first exchange", "second exchange"} {
		list["a line from the "+name+" to itself"] = joined(net(), joins(i, i, 0, 0))
	}
	for name, s := range wrongSpans(1000) {
		list["a delay "+name] = joined(net(), joins(0, 4, s.Low, s.High))
	}
	for name, s := range wrongSpans(12000) {
		list["a reading "+name] = with(net(), loop(4, s.Low, s.High))
	}
	return list
}

// falseNets are valid nets in which an exchange has no route, or a loop leads to one that is not reached.
func falseNets() map[string]api.LineNet {
	return map[string]api.LineNet{
		"torn": torn(), "odd": with(pair(), loop(1, 7, 7)), "between two ways": with(pair(), loop(1, 9, 17)), "sooner than all ways": with(pair(), loop(1, 0, 5)), "later than all ways": with(pair(), loop(1, 19, 12000)),
		"a loop in the house": with(pair(), loop(0, 1, 5)), "lost": with(net(), loop(4, 0, 12000)), "a loop too far away": hops(net(), 1), "alone": alone(loop(0, 12000, 12000)),
		"two of one way": with(alone(), loop(0, 0, 0), loop(0, 1, 1)), "each fits a way": with(pair(), loop(1, 6, 8), loop(1, 18, 18)),
	}
}

// asked is what one of the functions tells: its numbers, one after the other.
type asked struct {
	name string
	told []int
	e    api.Errno
}

// byExchange are all calls with an exchange.
func byExchange(n api.LineNet, exchange, delay int) []asked {
	routes, e1 := line.Routes(n, exchange)
	s, e2 := line.Delay(n, exchange)
	can, e3 := line.Can(n, exchange, delay)
	sooner, off, e4 := line.Correct(n, exchange)
	surely, e5 := line.Surely(n, exchange)
	numbers := []int{0}
	if can {
		numbers[0] = 1
	}
	return []asked{{"Routes", append(slices.Concat(routes...), len(routes)), e1}, {"Delay", []int{s.Low, s.High}, e2}, {"Can", numbers, e3}, {"Correct", []int{sooner, off}, e4}, {"Surely", surely, e5}}
}

// checkErrors asks for an error of all calls, and for zero values with it.
func checkErrors(t *testing.T, where string, all []asked, e api.Errno) {
	t.Helper()
	for _, a := range all {
		if a.e != e || slices.ContainsFunc(a.told, func(n int) bool { return n != 0 }) || len(a.told) > 2 {
			t.Errorf("%s: %s: %v, %d instead of %d", where, a.name, a.told, a.e, e)
		}
	}
}

// checkCutError asks for an error of Cut, and for zero values with it.
func checkCutError(t *testing.T, where string, n api.LineNet, number int, e api.Errno) {
	t.Helper()
	if a, b, f := line.Cut(n, number); len(a) != 0 || len(b) != 0 || f != e {
		t.Errorf("%s: Cut of %d: %v, %v, %d instead of %d", where, number, a, b, f, e)
	}
}

// P6.1: which nets are valid.
func TestCheck(t *testing.T) {
	for name, n := range wrongNets() {
		if e := line.Check(n); e != api.ErrLine {
			t.Errorf("%s: %d", name, e)
		}
	}
	edge := api.LineNet{Exchanges: 7, Hops: 6, Lines: []api.LineLine{joins(0, 6, 0, 0), joins(6, 0, 1000, 1000)}, Loops: []api.LineLoop{loop(6, 0, 0), loop(0, 12000, 12000)}}
	for i, n := range slices.Concat(many(60), small(60), []api.LineNet{net(), torn(), fullNet(), wideNet(), pair(), alone(), edge, hops(edge, 1), hops(alone(), 6)}) {
		if e := line.Check(n); e != api.OK {
			t.Errorf("the valid net %d: %d", i, e)
		}
	}
	for name, n := range falseNets() {
		if e := line.Check(n); e != api.OK {
			t.Errorf("%s: %d", name, e)
		}
	}
}

// P6.1, P1: all functions return ErrLine first, also where every other error applies, and zero values with it.
func TestWrongNetFirst(t *testing.T) {
	for name, n := range wrongNets() {
		for _, no := range []int{-1, 0, 1, 2, 4, 9} {
			checkErrors(t, name, byExchange(n, no, 0), api.ErrLine)
			checkCutError(t, name, n, no, api.ErrLine)
		}
		if l, e := line.Wrong(n); len(l) != 0 || e != api.ErrLine {
			t.Errorf("%s: Wrong: %v, %d", name, l, e)
		}
	}
}

// P6.1, P6.5, P1: wrong questions, of nets that can be true and of ones that cannot; exchanges that are not reached come before loops that are false.
func TestWrongQuestions(t *testing.T) {
	for name, n := range map[string]api.LineNet{"true": net(), "torn": torn(), "lost": with(net(), loop(4, 1, 1))} {
		for _, no := range []int{-1, 5, 6, 7, math.MinInt, math.MaxInt} {
			checkErrors(t, name, byExchange(n, no, 0), api.ErrLineAsk)
		}
		for _, no := range []int{-1, 4, 5, 11, 12, math.MinInt, math.MaxInt} {
			checkCutError(t, name, n, no, api.ErrLineAsk)
		}
		checkErrors(t, name, byExchange(n, 4, 0), api.ErrNone)
	}
	checkErrors(t, "torn", byExchange(torn(), 2, 20), api.ErrLineFalse)
	checkErrors(t, "too few lines", byExchange(hops(torn(), 1), 3, 27), api.ErrNone)
	checkErrors(t, "the house, where no time goes by", byExchange(alone(loop(0, 1, 12000)), 0, 0), api.ErrLineFalse)
	checkErrors(t, "the house has no neighbour", byExchange(alone(), 1, 0), api.ErrLineAsk)
	checkErrors(t, "no lines", byExchange(apart(), 1, 0), api.ErrNone)
	checkCutError(t, "no lines", apart(), 0, api.ErrLineAsk)
}

// P6.2 to P6.6: the examples of the chapter.
func TestExamples(t *testing.T) {
	for i, want := range [][][]int{{{}}, {{0}, {2, 1}}, {{2}, {0, 1}}, {{2, 3}, {0, 1, 3}}} {
		if l := good[[][]int](t, "Routes")(line.Routes(net(), i)); !same(l, want) {
			t.Errorf("Routes to %d: %v", i, l)
		}
	}
	for exchange, want := range map[int]api.Span{0: to(0, 0), 2: to(18, 25), 3: to(22, 37)} {
		if s := good[api.Span](t, "Delay")(line.Delay(net(), exchange)); s != want {
			t.Errorf("Delay to %d: %v", exchange, s)
		}
	}
	for at, want := range map[[2]int]bool{{2, 19}: false, {3, 26}: false, {3, 25}: true, {3, 37}: true} {
		if is := good[bool](t, "Can")(line.Can(net(), at[0], at[1])); is != want {
			t.Errorf("Can: %v: %v", at, is)
		}
	}
	for exchange, want := range map[int][2]int{0: {0, 0}, 1: {23, 13}, 2: {21, 4}, 3: {29, 8}} {
		if sooner, off, e := line.Correct(net(), exchange); sooner != want[0] || off != want[1] || e != api.OK {
			t.Errorf("Correct for %d: %d, %d, %d", exchange, sooner, off, e)
		}
	}
	for exchange, want := range map[int][]int{0: nil, 2: nil, 3: {3}} {
		if l := good[[]int](t, "Surely")(line.Surely(net(), exchange)); !slices.Equal(l, want) {
			t.Errorf("Surely to %d: %v", exchange, l)
		}
	}
	for number, want := range map[int][2][]int{2: {nil, {1, 2, 3}}, 3: {{3}, nil}} {
		if a, b, e := line.Cut(net(), number); !slices.Equal(a, want[0]) || !slices.Equal(b, want[1]) || e != api.OK {
			t.Errorf("Cut of %d: %v, %v, %d", number, a, b, e)
		}
	}
	checkErrors(t, "the examples", byExchange(net(), 4, 0), api.ErrNone)
	checkErrors(t, "the examples", byExchange(net(), 5, 0), api.ErrLineAsk)
	if a, b := wrong(t, net()), wrong(t, torn()); len(a) != 0 || !slices.Equal(b, []int{2}) {
		t.Errorf("Wrong: %v; with a loop more: %v", a, b)
	}
	checkErrors(t, "the examples, torn", byExchange(torn(), 2, 20), api.ErrLineFalse)
}

// P6.2: the order of routes; lines that join the same exchanges, and ways that would come to the house or an exchange again.
func TestRoutes(t *testing.T) {
	ring := api.LineNet{Exchanges: 4, Hops: 6, Lines: []api.LineLine{joins(3, 2, 0, 0), joins(2, 1, 0, 0), joins(3, 0, 0, 0), joins(1, 0, 0, 0), joins(1, 3, 0, 0)}}
	for i, x := range []struct {
		n    api.LineNet
		to   int
		want [][]int
	}{
		{pair(), 1, [][]int{{0}, {1}}}, {pair(), 0, [][]int{nil}}, {alone(), 0, [][]int{nil}}, {alone(loop(0, 0, 0)), 0, [][]int{nil}}, {ring, 0, [][]int{nil}},
		{ring, 1, [][]int{{3}, {2, 4}, {2, 0, 1}}}, {ring, 2, [][]int{{2, 0}, {3, 1}, {2, 4, 1}, {3, 4, 0}}}, {ring, 3, [][]int{{2}, {3, 4}, {3, 1, 0}}},
		{hops(ring, 2), 2, [][]int{{2, 0}, {3, 1}}}, {hops(ring, 2), 3, [][]int{{2}, {3, 4}}}, {hops(ring, 1), 3, [][]int{{2}}},
		// there and back: 20 fits the delay 10, 21 fits none, 22 fits 11
		{with(net(), loop(1, 20, 21)), 1, [][]int{{0}}}, {with(net(), loop(1, 50, 50)), 1, [][]int{{2, 1}}}, {with(net(), loop(1, 25, 72)), 1, [][]int{{2, 1}}}, {with(net(), loop(1, 24, 72)), 1, [][]int{{0}, {2, 1}}}, {with(net(), loop(1, 24, 49)), 1, [][]int{{0}}}, {with(net(), loop(1, 24, 50)), 1, [][]int{{0}, {2, 1}}},
		{with(net(), loop(1, 20, 50), loop(1, 23, 25)), 1, [][]int{{0}}}, {with(net(), loop(1, 20, 60), loop(1, 25, 100)), 1, [][]int{{2, 1}}},
	} {
		if l, e := line.Routes(x.n, x.to); !same(l, x.want) || e != api.OK {
			t.Errorf("Routes %d: %v, %d", i, l, e)
		}
	}
	if l := routesTo(t, fullNet(), 6); len(l) != 64 || !slices.Equal(l[0], []int{0, 2, 4, 6, 8, 10}) || !slices.Equal(l[63], []int{1, 3, 5, 7, 9, 11}) || !slices.IsSortedFunc(l, slices.Compare) {
		t.Errorf("the routes of the full net: %d", len(l))
	}
}

// P6.3: delays at the ends, beyond them and between two routes; and of numbers that are none.
func TestDelays(t *testing.T) {
	for i, x := range []struct {
		n    api.LineNet
		to   int
		want api.Span
	}{
		{pair(), 1, to(3, 9)}, {fullNet(), 6, to(0, 6000)}, {fullNet(), 1, to(0, 1000)}, {hops(net(), 2), 3, to(27, 37)}, {with(pair(), loop(1, 7, 12000)), 1, to(4, 9)}, {with(pair(), loop(1, 0, 17)), 1, to(3, 4)}, {with(pair(), loop(1, 0, 18), loop(1, 8, 12000)), 1, to(4, 9)},
		{fullNet(), 5, to(0, 5000)}, {with(net(), loop(2, 41, 45)), 2, to(21, 22)}, {with(net(), loop(2, 37, 39)), 3, to(22, 37)},
	} {
		if s, e := line.Delay(x.n, x.to); s != x.want || e != api.OK {
			t.Errorf("Delay %d: %v, %d", i, s, e)
		}
	}
	can := func(n api.LineNet, exchange int) []int {
		var list []int
		for delay := range 50 {
			if good[bool](t, "Can")(line.Can(n, exchange, delay)) {
				list = append(list, delay)
			}
		}
		return list
	}
	for i, x := range []struct {
		n    api.LineNet
		to   int
		want []int
	}{
		{net(), 0, []int{0}}, {net(), 2, []int{18, 20, 21, 22, 23, 24, 25}}, {pair(), 1, []int{3, 4, 9}}, {with(pair(), loop(1, 7, 18)), 1, []int{4, 9}}, {with(net(), loop(2, 41, 45)), 2, []int{21, 22}}, {with(net(), loop(2, 36, 39)), 2, []int{18}},
	} {
		if l := can(x.n, x.to); !slices.Equal(l, x.want) {
			t.Errorf("Can %d: %v", i, l)
		}
	}
	for _, delay := range []int{math.MinInt, math.MinInt + 1, math.MinInt / 2, -18, -1, 6001, 1 << 62, math.MaxInt / 2, math.MaxInt} {
		for exchange := range 7 {
			if is := good[bool](t, "Can")(line.Can(fullNet(), exchange, delay)); is {
				t.Errorf("Can: %d to %d", delay, exchange)
			}
		}
	}
}

// P6.4: the least of two numbers that are as good, and delays that are known.
func TestCorrect(t *testing.T) {
	for i, x := range []struct {
		n               api.LineNet
		to, sooner, off int
	}{
		{pair(), 1, 6, 3}, {pair(loop(1, 0, 8)), 1, 3, 1}, {pair(loop(1, 8, 8)), 1, 4, 0}, {pair(loop(1, 8, 18)), 1, 6, 3}, {fullNet(), 6, 3000, 3000}, {fullNet(), 0, 0, 0}, {alone(), 0, 0, 0},
		{apart(joins(0, 1, 0, 1)), 1, 0, 1}, {apart(joins(0, 1, 4, 9)), 1, 6, 3}, {apart(joins(0, 1, 1000, 1000)), 1, 1000, 0}, {apart(joins(0, 1, 999, 1000)), 1, 999, 1},
	} {
		if sooner, off, e := line.Correct(x.n, x.to); sooner != x.sooner || off != x.off || e != api.OK {
			t.Errorf("Correct %d: %d, %d, %d", i, sooner, off, e)
		}
	}
}

// P6.5: lines on all routes, on some and on none; exchanges that are not reached, and ones without a route, are in neither list.
func TestCut(t *testing.T) {
	for i, x := range []struct {
		n               api.LineNet
		number          int
		surely, perhaps []int
	}{
		{net(), 0, nil, []int{1, 2, 3}}, {net(), 1, nil, []int{1, 2, 3}}, {hops(net(), 1), 2, []int{2}, nil}, {hops(net(), 1), 3, nil, nil}, {hops(net(), 2), 2, []int{3}, []int{1, 2}}, {torn(), 2, nil, []int{1, 3}}, {torn(), 3, []int{3}, nil},
		{with(net(), loop(1, 20, 24)), 0, []int{1}, []int{2, 3}}, {with(net(), loop(1, 20, 24), loop(2, 40, 50), loop(3, 44, 50)), 0, []int{1, 3}, nil}, {pair(), 0, nil, []int{1}}, {pair(loop(1, 0, 8)), 0, []int{1}, nil}, {pair(loop(1, 0, 8)), 1, nil, nil}, {pair(loop(1, 9, 9)), 1, nil, nil},
		{joined(net(), joins(4, 0, 1, 1)), 4, []int{4}, nil}, {fullNet(), 0, nil, []int{1, 2, 3, 4, 5, 6}}, {fullNet(), 11, nil, []int{6}}, {cut(fullNet(), 5), 4, []int{3, 4, 5, 6}, nil},
	} {
		if a, b, e := line.Cut(x.n, x.number); !slices.Equal(a, x.surely) || !slices.Equal(b, x.perhaps) || e != api.OK {
			t.Errorf("Cut %d: %v, %v, %d", i, a, b, e)
		}
	}
	for i, x := range []struct {
		n    api.LineNet
		to   int
		want []int
	}{
		{pair(), 1, nil}, {pair(loop(1, 0, 8)), 1, []int{0}}, {pair(loop(1, 9, 12000)), 1, []int{1}}, {hops(net(), 2), 3, []int{2, 3}}, {hops(net(), 2), 0, nil}, {fullNet(), 6, nil}, {cut(cut(fullNet(), 7), 2), 6, []int{2, 5}}, {with(net(), loop(3, 60, 60)), 3, []int{2, 3}}, {with(net(), loop(1, 60, 60)), 1, []int{1, 2}},
	} {
		if l, e := line.Surely(x.n, x.to); !slices.Equal(l, x.want) || e != api.OK {
			t.Errorf("Surely %d: %v, %d", i, l, e)
		}
	}
}

// P6.6: the fewest loops, and of several lists the first one.
func TestWrong(t *testing.T) {
	reads := func(reads ...int) api.LineNet { // loops on a line that delays by 10 to 30
		n := apart(joins(1, 0, 10, 30))
		for _, read := range reads {
			n.Loops = append(n.Loops, loop(1, read, read+1))
		}
		return n
	}
	for i, x := range []struct {
		n    api.LineNet
		want []int
	}{
		{net(), nil}, {torn(), []int{2}}, {alone(), nil}, {alone(loop(0, 0, 0)), nil}, {alone(loop(0, 1, 1), loop(0, 0, 5), loop(0, 2, 12000)), []int{0, 2}}, {fullNet(), nil},
		{with(net(), loop(4, 0, 12000)), []int{2}}, {with(torn(), loop(4, 0, 12000), loop(1, 21, 21)), []int{2, 3, 4}}, {hops(net(), 1), []int{1}},
		{reads(20), nil}, {reads(19), nil}, {reads(18), []int{0}}, {reads(60), nil}, {reads(61), []int{0}}, {reads(20, 21), []int{0}}, {reads(21, 22), nil}, {reads(21, 20), []int{0}}, {reads(22, 21, 40), []int{2}}, {reads(30, 32), []int{0}}, {reads(30, 32, 30), []int{1}}, {reads(32, 30, 30, 32), []int{0, 3}}, {reads(30, 32, 30, 32), []int{0, 2}}, {reads(30, 30, 32, 32), []int{0, 1}},
		{reads(22, 24, 26, 28, 30, 32, 34, 36, 38, 40), []int{0, 1, 2, 3, 4, 5, 6, 7, 8}}, {reads(22, 24, 26, 28, 30, 32, 34, 36, 38, 70), []int{0, 1, 2, 3, 4, 5, 6, 7, 9}}, {reads(70, 71, 72, 73, 74, 75, 76, 77, 78, 79), []int{0, 1, 2, 3, 4, 5, 6, 7, 8, 9}},
		// two ways, of which each can be the right one
		{pair(loop(1, 18, 18), loop(1, 6, 8)), []int{0}}, {pair(loop(1, 6, 8), loop(1, 18, 18)), []int{0}}, {pair(loop(1, 18, 18), loop(1, 6, 8), loop(1, 17, 30)), []int{1}}, {pair(loop(1, 9, 17), loop(1, 0, 100)), []int{0}}, {pair(loop(1, 6, 6), loop(1, 8, 8), loop(1, 18, 18), loop(1, 7, 8)), []int{0, 2}},
		// two exchanges, each by itself
		{with(net(), loop(3, 10, 43), loop(2, 51, 55), loop(3, 200, 300), loop(1, 20, 80)), []int{0, 2, 4}},
	} {
		if l, e := line.Wrong(x.n); !slices.Equal(l, x.want) || e != api.OK {
			t.Errorf("Wrong %d: %v, %d instead of %v", i, l, e, x.want)
		}
	}
	for name, n := range falseNets() {
		if l := wrong(t, n); !slices.Equal(l, fewest(n, waysOf(n))) || len(l) == 0 {
			t.Errorf("%s: Wrong: %v", name, l)
		}
	}
}

// checkModel compares what is told of an exchange with its model.
func checkModel(t *testing.T, where int, n api.LineNet, exchange int, m model) {
	t.Helper()
	if m.error() != api.OK {
		checkErrors(t, "a net without a route", byExchange(n, exchange, 0), m.error())
		return
	}
	if l, e := line.Routes(n, exchange); !same(l, m.routes) || e != api.OK {
		t.Errorf("net %d: Routes to %d: %v, %d instead of %v", where, exchange, l, e, m.routes)
	}
	if s, e := line.Delay(n, exchange); s != m.span() || e != api.OK {
		t.Errorf("net %d: Delay to %d: %v, %d instead of %v", where, exchange, s, e, m.span())
	}
	if l, e := line.Surely(n, exchange); !slices.Equal(l, m.surely(n)) || e != api.OK {
		t.Errorf("net %d: Surely to %d: %v, %d instead of %v", where, exchange, l, e, m.surely(n))
	}
	for delay := m.span().Low - 2; delay <= m.span().High+2; delay += 1 + m.span().High/200 {
		if is, e := line.Can(n, exchange, delay); is != slices.Contains(m.delays, delay) || e != api.OK {
			t.Errorf("net %d: Can: %d to %d: %v, %d", where, delay, exchange, is, e)
		}
	}
	if m.span().High < 200 {
		want, by := m.correct()
		if sooner, off, e := line.Correct(n, exchange); sooner != want || off != by || e != api.OK {
			t.Errorf("net %d: Correct for %d: %d, %d, %d instead of %d, %d", where, exchange, sooner, off, e, want, by)
		}
	}
}

// checkCuts compares what is told of all lines with the models of all exchanges.
func checkCuts(t *testing.T, where int, n api.LineNet, all []model) {
	t.Helper()
	for i := range n.Lines {
		surely, perhaps := cutting(all, i)
		if a, b, e := line.Cut(n, i); !slices.Equal(a, surely) || !slices.Equal(b, perhaps) || e != api.OK {
			t.Errorf("net %d: Cut of %d: %v, %v, %d instead of %v, %v", where, i, a, b, e, surely, perhaps)
		}
	}
}

// P6.2 to P6.6: of small nets all lists of lines and all delays are listed.
func TestSmallNets(t *testing.T) {
	lies := 0
	for i, n := range small(250) {
		ways := listed(n)
		all := modelsOf(n, ways, listedOnWay)
		for exchange, m := range all {
			checkModel(t, i, n, exchange, m)
		}
		checkCuts(t, i, n, all)
		l := wrong(t, n)
		if sets := sets(len(n.Loops)); !slices.Equal(l, sets[slices.IndexFunc(sets, func(set []int) bool { return canBeTrue(without(n, set)) })]) {
			t.Errorf("net %d: Wrong: %v", i, l)
		}
		lies += min(len(l), 1)
	}
	if lies < 40 || lies > 210 {
		t.Errorf("%d of 250 nets cannot be true", lies)
	}
}

// P6.2 to P6.6: drawn nets of all sizes are compared with the model.
func TestManyNets(t *testing.T) {
	lies, far := 0, 0
	for i, n := range many(240) {
		ways := waysOf(n)
		all := modelsOf(n, ways, onWay)
		for exchange, m := range all {
			checkModel(t, i, n, exchange, m)
			if len(m.routes) > 4 {
				far++
			}
		}
		checkCuts(t, i, n, all)
		l := wrong(t, n)
		if want := fewest(n, ways); !slices.Equal(l, want) {
			t.Errorf("net %d: Wrong: %v instead of %v", i, l, want)
		}
		lies += min(len(l), 1)
	}
	if lies < 60 || far < 60 {
		t.Errorf("%d nets that cannot be true, and %d exchanges with many routes: too few to tell something", lies, far)
	}
}

// P6.2, P6.6, P1: nets with as many ways as can be found end soon.
func TestManyWays(t *testing.T) {
	r := rand.New(rand.NewSource(64))
	nets := []api.LineNet{fullNet(), wideNet()}
	for range 40 {
		n := drawnNet(r, size{7, 12, 1000, 1000, 10})
		n.Hops = 6
		nets = append(nets, n)
	}
	for i, n := range nets {
		ways := waysOf(n)
		count := 0
		for exchange := range n.Exchanges {
			count += len(routesTo(t, without(n, []int{0, 1, 2, 3, 4, 5, 6, 7, 8, 9}), exchange))
		}
		if l := wrong(t, n); count != len(ways) || !slices.Equal(l, fewest(n, ways)) {
			t.Errorf("net %d: %d ways instead of %d; %v", i, count, len(ways), l)
		}
	}
}
