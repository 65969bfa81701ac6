package beat_test

import (
	"math"
	"slices"
	"testing"

	"remontoir/api"
	"remontoir/beat"
)

// wrongCellars are cellars that are not valid, each by one thing.
func wrongCellars() map[string]api.BeatCellar {
	list := map[string]api.BeatCellar{
		"none":          {},
		"6 rates":       rates(1, make([]api.Span, 6)...),
		"no rates":      rates(1),
		"7 openings":    withOpens(cellar(), make([]api.BeatOpen, 6)...),
		"15 pairs":      with(cellar(), slices.Repeat([]api.BeatPair{sure}, 11)...),
		"12 hours in 1": with(rates(1, to(0, 0)), pair(12, 0, -1, 0, 0)),
	}
	for name, hours := range map[string]int{"no hours": 0, "hours below 0": -1, "13 hours": 13, "all hours": math.MaxInt, "least hours": math.MinInt} {
		list[name] = rates(hours, to(0, 0))
	}
	for name, s := range map[string]api.Span{"turned round": to(1, 0), "too low": to(-1001, 0), "too high": to(0, 1001), "far too low": to(math.MinInt, 0), "far too high": to(0, math.MaxInt), "behind": to(1001, 1002), "before": to(-1002, -1001), "far turned round": to(math.MaxInt, math.MinInt)} {
		list["a rate "+name] = rates(3, to(0, 0), s)
	}
	for name, o := range map[string]api.BeatOpen{"of no clock": opened(3, 0, 0, 0), "of true time": opened(-1, 0, 0, 0), "before the first hour": opened(0, -1, 0, 0), "in the last hour": opened(0, 3, 0, 0), "with a step too low": opened(0, 0, -100001, 0), "with a step too high": opened(0, 0, 0, 100001), "with a step turned round": opened(0, 0, 1, 0), "far away": opened(math.MaxInt, math.MinInt, 0, 0)} {
		list["an opening "+name] = withOpens(cellar(), o)
	}
	for name, p := range map[string]api.BeatPair{"of no clock": pair(0, 3, 0, 0, 0), "of true time": pair(0, -1, 0, 0, 0), "with no clock": pair(0, 0, 3, 0, 0), "with less than true time": pair(0, 0, -2, 0, 0), "of a clock with itself": pair(0, 1, 1, 0, 0), "of true time with itself": pair(0, -1, -1, 0, 0), "before the first hour": pair(-1, 0, 1, 0, 0), "behind the last hour": pair(4, 0, 1, 0, 0), "read too low": pair(0, 0, 1, -200001, 0), "read too high": pair(0, 0, 1, 0, 200001), "read turned round": pair(0, 0, 1, 5, 4), "far away": pair(math.MaxInt, math.MinInt, math.MaxInt, 0, 0)} {
		list["a comparison "+name] = with(cellar(), p)
	}
	return list
}

// fullCellar is as great as a cellar can be.
func fullCellar() api.BeatCellar {
	c := rates(12, to(-1000, 1000), to(-1000, -1000), to(1000, 1000), to(0, 0), to(-1, 1))
	for clock := range 5 {
		c.Opens = append(c.Opens, opened(clock, 11, -100000, 100000))
	}
	c.Opens = append(c.Opens, opened(4, 0, 100000, 100000))
	for hour := range 13 {
		c.Pairs = append(c.Pairs, pair(hour, hour%5, (hour+1)%5, -200000, 200000))
	}
	c.Pairs = append(c.Pairs, pair(12, 4, -1, -200000, 200000))
	return c
}

// falseCellars are valid cellars that cannot be true.
func falseCellars() map[string]api.BeatCellar {
	return map[string]api.BeatCellar{
		"torn":                    with(cellar(), torn),
		"two reads":               with(rates(1, to(0, 0)), pair(0, 0, -1, 1, 1), pair(0, 0, -1, 2, 2)),
		"two reads turned round":  with(rates(1, to(0, 0), to(0, 0)), pair(1, 0, 1, 1, 1), pair(1, 1, 0, 0, 0)),
		"three clocks":            with(rates(1, make([]api.Span, 3)...), pair(0, 0, 1, 5, 5), pair(0, 1, 2, 5, 5), pair(0, 0, 2, 11, 11)),
		"beyond the limits":       with(rates(1, to(0, 0)), pair(0, 0, -1, 100001, 200000)),
		"below the limits":        with(rates(1, to(0, 0)), pair(0, 0, -1, -200000, -100001)),
		"gains beyond the limits": with(rates(1, to(1, 1)), pair(0, 0, -1, 100000, 100000)),
		"loses below the limits":  with(rates(1, to(-1, -1)), pair(0, 0, -1, -100000, -100000)),
		"gains too little":        with(rates(12, to(-1, 1)), pair(0, 0, -1, 0, 0), pair(12, 0, -1, 13, 13)),
		"a step too small":        with(withOpens(rates(2, to(0, 0)), opened(0, 1, 1, 4)), pair(0, 0, -1, 0, 0), pair(2, 0, -1, 5, 5)),
		"a step too early":        with(withOpens(rates(2, to(0, 0)), opened(0, 1, 0, 9)), pair(0, 0, -1, 0, 0), pair(1, 0, -1, 5, 5)),
		"apart as far as can be":  with(rates(1, to(0, 0), to(1, 1)), pair(0, 1, 0, 200000, 200000)),
		"stepping too far":        withOpens(rates(1, to(0, 0)), opened(0, 0, 100000, 100000), opened(0, 0, 100000, 100000), opened(0, 0, 1, 1)),
	}
}

// asked is one call of a function that tells a span.
type asked struct {
	name string
	s    api.Span
	e    api.Errno
}

// spans are all calls with a clock (or two) and hours, of the functions that tell a span.
func spans(c api.BeatCellar, one, other, from, until int) []asked {
	s1, e1 := beat.Offset(c, one, from)
	s2, e2 := beat.Apart(c, one, other, from)
	s3, e3 := beat.Drift(c, one, from, until)
	return []asked{{"Offset", s1, e1}, {"Apart", s2, e2}, {"Drift", s3, e3}}
}

// P2.1: which cellars are valid.
func TestCheck(t *testing.T) {
	for name, c := range wrongCellars() {
		if e := beat.Check(c); e != api.ErrBeat {
			t.Errorf("%s: %d", name, e)
		}
	}
	for i, c := range append(many(50), cellar(), fullCellar(), rates(1, to(0, 0)), rates(12, to(-1000, 1000)), rates(1, make([]api.Span, 5)...)) {
		if e := beat.Check(c); e != api.OK {
			t.Errorf("the valid cellar %d: %d", i, e)
		}
	}
	for name, c := range falseCellars() {
		if e := beat.Check(c); e != api.OK {
			t.Errorf("%s: %d", name, e)
		}
	}
}

// P2.1, P1: all functions return ErrBeat first, also where every other error applies, and zero values with it.
func TestWrongCellarFirst(t *testing.T) {
	for name, c := range wrongCellars() {
		for _, a := range append(spans(c, -1, -1, -1, -1), spans(c, 0, 0, 0, 0)...) {
			if a.s != to(0, 0) || a.e != api.ErrBeat {
				t.Errorf("%s: %v", name, a)
			}
		}
		if is, e := beat.IsTruth(c, nil); is || e != api.ErrBeat {
			t.Errorf("%s: IsTruth: %v, %d", name, is, e)
		}
		if l, e := beat.Case(c, -1, 0, true); len(l) != 0 || e != api.ErrBeat {
			t.Errorf("%s: Case: %v, %d", name, l, e)
		}
		if l, e := beat.Wrong(c); len(l) != 0 || e != api.ErrBeat {
			t.Errorf("%s: Wrong: %v, %d", name, l, e)
		}
		if clock, wide, e := beat.Best(c, -1); clock != 0 || wide != 0 || e != api.ErrBeat {
			t.Errorf("%s: Best: %d, %d, %d", name, clock, wide, e)
		}
	}
}

// P2.2, P2.3, P2.4, P2.6, P1: wrong questions, of a cellar that can be true and of one that cannot, and zero values with the error.
func TestWrongQuestions(t *testing.T) {
	for i, c := range []api.BeatCellar{cellar(), with(cellar(), torn)} {
		for _, no := range []int{-1, -2, 3, 4, math.MinInt, math.MaxInt} {
			for j, a := range [][]asked{spans(c, no, 0, 0, 0)[:3], spans(c, 0, no, 0, 0)[1:2]} {
				for _, x := range a {
					if x.s != to(0, 0) || x.e != api.ErrBeatAsk {
						t.Errorf("cellar %d, the clock %d as %d: %v", i, no, j, x)
					}
				}
			}
			if l, e := beat.Case(c, no, 0, true); len(l) != 0 || e != api.ErrBeatAsk {
				t.Errorf("cellar %d, Case of the clock %d: %v, %d", i, no, l, e)
			}
		}
		for _, no := range []int{-1, 4, 12, math.MinInt, math.MaxInt} {
			for j, a := range [][]asked{spans(c, 0, 1, no, 0)[:3], spans(c, 0, 1, 0, no)[2:]} {
				for _, x := range a {
					if x.s != to(0, 0) || x.e != api.ErrBeatAsk {
						t.Errorf("cellar %d, the hour %d as %d: %v", i, no, j, x)
					}
				}
			}
			if l, e := beat.Case(c, 0, no, false); len(l) != 0 || e != api.ErrBeatAsk {
				t.Errorf("cellar %d, Case at the hour %d: %v, %d", i, no, l, e)
			}
			if clock, wide, e := beat.Best(c, no); clock != 0 || wide != 0 || e != api.ErrBeatAsk {
				t.Errorf("cellar %d, Best at the hour %d: %d, %d, %d", i, no, clock, wide, e)
			}
		}
	}
}

// P2.2, P2.3, P2.4, P2.6, P1: of cellars that cannot be true nothing is told, also not of a clock against itself.
func TestFalseCellars(t *testing.T) {
	for name, c := range falseCellars() {
		last := len(c.Rates) - 1
		for _, a := range append(spans(c, 0, last, 0, c.Hours), spans(c, last, last, c.Hours, c.Hours)...) {
			if a.s != to(0, 0) || a.e != api.ErrBeatFalse {
				t.Errorf("%s: %v", name, a)
			}
		}
		for _, most := range []bool{true, false} {
			if l, e := beat.Case(c, last, c.Hours, most); len(l) != 0 || e != api.ErrBeatFalse {
				t.Errorf("%s: Case: %v, %d", name, l, e)
			}
		}
		if clock, wide, e := beat.Best(c, c.Hours); clock != 0 || wide != 0 || e != api.ErrBeatFalse {
			t.Errorf("%s: Best: %d, %d, %d", name, clock, wide, e)
		}
		if is, e := beat.IsTruth(c, make([][]int, len(c.Rates))); is || e != api.OK {
			t.Errorf("%s: IsTruth: %v, %d", name, is, e)
		}
	}
}

// P2.1: which offsets are a truth, at the edges of the limits, of rates, of steps and of comparisons, and which have another shape.
func TestIsTruth(t *testing.T) {
	free := rates(2, to(-2, 3))
	steps := withOpens(rates(2, to(-2, 3), to(0, 0)), opened(0, 1, 10, 20), opened(0, 1, -5, 5), opened(1, 0, -7, -7))
	pairs := with(rates(1, to(0, 9), to(-9, 9)), pair(0, 0, 1, 3, 4), pair(1, 1, -1, -6, 6), pair(1, 1, 0, -2, 2))
	for i, x := range []struct {
		c    api.BeatCellar
		rows [][]int
		want bool
	}{
		{free, [][]int{{0, 0, 0}}, true}, {free, [][]int{{0, 3, 1}}, true}, {free, [][]int{{0, -2, 1}}, true}, {free, [][]int{{0, 4, 4}}, false}, {free, [][]int{{0, -3, -3}}, false}, {free, [][]int{{0, 0, 4}}, false}, {free, [][]int{{5, 5, 2}}, false},
		{free, [][]int{{99997, 100000, 100000}}, true}, {free, [][]int{{100000, 100001, 100000}}, false}, {free, [][]int{{-100000, -100000, -99998}}, true}, {free, [][]int{{-100001, -100000, -100000}}, false}, {free, [][]int{{-99999, -100000, -100001}}, false},
		{free, [][]int{{math.MaxInt, math.MinInt, math.MinInt}}, false}, {free, [][]int{{math.MinInt, math.MaxInt, math.MinInt}}, false}, {free, [][]int{{math.MinInt, math.MinInt, math.MinInt}}, false}, {free, [][]int{{math.MaxInt, math.MaxInt, math.MaxInt}}, false},
		{free, [][]int{{0, 0}}, false}, {free, [][]int{{0, 0, 0, 0}}, false}, {free, [][]int{{0, 0, 0}, {0, 0, 0}}, false}, {free, [][]int{{}}, false}, {free, [][]int{nil}, false}, {free, [][]int{}, false}, {free, nil, false},
		{free, [][]int{make([]int, 40)}, false}, {free, make([][]int, 40), false}, {free, [][]int{{0, 0, 0}, nil}, false},
		{steps, [][]int{{0, 0, 3}, {0, -7, -7}}, true}, {steps, [][]int{{0, 0, 28}, {7, 0, 0}}, true}, {steps, [][]int{{0, 0, 2}, {0, -7, -7}}, false}, {steps, [][]int{{0, 0, 29}, {0, -7, -7}}, false}, {steps, [][]int{{0, 4, 20}, {0, -7, -7}}, false}, {steps, [][]int{{0, 0, 9}, {0, -6, -6}}, false}, {steps, [][]int{{0, 0, 9}, {0, -7, -14}}, false},
		{pairs, [][]int{{3, 4}, {0, 2}}, true}, {pairs, [][]int{{4, 4}, {0, 6}}, true}, {pairs, [][]int{{2, 4}, {0, 2}}, false}, {pairs, [][]int{{5, 5}, {0, 3}}, false}, {pairs, [][]int{{4, 5}, {0, 7}}, false}, {pairs, [][]int{{4, 5}, {0, 2}}, false}, {pairs, [][]int{{4, 4}, {1, -7}}, false}, {pairs, [][]int{{4, 4}, {1, 7}}, false}, {pairs, [][]int{{-9, -6}, {-12, -6}}, true}, {pairs, [][]int{{-4, -4}, {0, -1}}, false},
		{cellar(), [][]int{{100, 98, 98, 98}, {57, 58, 59, 60}, {65, 65, 65, 65}}, true}, {with(cellar(), torn), [][]int{{100, 98, 98, 98}, {57, 58, 59, 60}, {65, 65, 65, 65}}, false},
	} {
		if is, e := beat.IsTruth(x.c, x.rows); is != x.want || e != api.OK {
			t.Errorf("IsTruth %d: %v, %d", i, is, e)
		}
	}
}

// P2.2, P2.3, P2.5, P2.6: the examples of the chapter.
func TestExamples(t *testing.T) {
	c := cellar()
	for i, x := range []struct {
		clock, hour int
		want        api.Span
	}{{0, 0, to(100, 104)}, {0, 1, to(98, 105)}, {1, 0, to(57, 61)}, {1, 3, to(60, 61)}, {2, 1, to(-5, 136)}} {
		if s, e := beat.Offset(c, x.clock, x.hour); s != x.want || e != api.OK {
			t.Errorf("Offset %d: %v, %d", i, s, e)
		}
	}
	for i, x := range []struct {
		one, other, hour int
		want             api.Span
	}{{0, 1, 1, to(40, 44)}, {0, 1, 3, to(34, 50)}, {1, 1, 2, to(0, 0)}} {
		if s, e := beat.Apart(c, x.one, x.other, x.hour); s != x.want || e != api.OK {
			t.Errorf("Apart %d: %v, %d", i, s, e)
		}
	}
	for i, x := range []struct {
		clock, from, until int
		want               api.Span
	}{{1, 0, 3, to(0, 3)}, {1, 3, 0, to(-3, 0)}, {2, 1, 2, to(-60, 60)}} {
		if s, e := beat.Drift(c, x.clock, x.from, x.until); s != x.want || e != api.OK {
			t.Errorf("Drift %d: %v, %d", i, s, e)
		}
	}
	for i, x := range []struct {
		c    api.BeatCellar
		want []int
	}{{c, nil}, {with(c, torn), []int{1}}, {with(c, torn, sure), []int{1}}} {
		if l, e := beat.Wrong(x.c); !slices.Equal(l, x.want) || e != api.OK {
			t.Errorf("Wrong %d: %v, %d", i, l, e)
		}
	}
	for i, x := range []struct{ hour, clock, wide int }{{0, 0, 4}, {3, 1, 1}} {
		if clock, wide, e := beat.Best(c, x.hour); clock != x.clock || wide != x.wide || e != api.OK {
			t.Errorf("Best %d: %d, %d, %d", i, clock, wide, e)
		}
	}
}

// P2.2, P2.3: clocks of which nothing is told but the limits, and clocks that the limits alone hold.
func TestLimits(t *testing.T) {
	most := 100000
	free := rates(2, to(5, 7), to(0, 0))
	far := withOpens(rates(1, to(0, 0)), opened(0, 0, most, most), opened(0, 0, most, most))
	for i, x := range []struct {
		got, want api.Span
	}{
		{offset(t, free, 0, 0), to(-most, most-10)}, {offset(t, free, 0, 1), to(-most+5, most-5)}, {offset(t, free, 0, 2), to(-most+10, most)}, {offset(t, free, 1, 1), to(-most, most)},
		{apart(t, free, 0, 1, 0), to(-2*most, 2*most-10)}, {apart(t, free, 1, 0, 2), to(-2*most, 2*most-10)}, {apart(t, free, 0, 1, 1), to(-2*most+5, 2*most-5)}, {apart(t, free, 0, 0, 2), to(0, 0)},
		{drift(t, free, 0, 0, 2), to(10, 14)}, {drift(t, free, 0, 2, 1), to(-7, -5)}, {drift(t, free, 1, 0, 2), to(0, 0)},
		{offset(t, far, 0, 0), to(-most, -most)}, {offset(t, far, 0, 1), to(most, most)}, {drift(t, far, 0, 0, 1), to(2*most, 2*most)},
		{drift(t, withOpens(rates(1, to(-9, 9)), opened(0, 0, -most, most), opened(0, 0, -most, most), opened(0, 0, -most, most)), 0, 0, 1), to(-2*most, 2*most)},
		{offset(t, with(free, pair(1, 0, 1, 2*most-5, 2*most)), 0, 1), to(most-5, most-5)}, {offset(t, with(free, pair(1, 0, 1, 2*most-5, 2*most)), 1, 0), to(-most, -most)},
	} {
		if x.got != x.want {
			t.Errorf("%d: %v instead of %v", i, x.got, x.want)
		}
	}
}

// P2.2, P2.3: what is told of one clock at one hour reaches every other one, over all clocks and all hours, forwards and backwards.
func TestLongWays(t *testing.T) {
	chain := []api.BeatPair{pair(12, 4, -1, 7, 8), pair(0, 4, 3, 1, 1), pair(12, 3, 2, 1, 1), pair(0, 2, 1, 1, 1), pair(12, 1, 0, 1, 1)}
	c := with(rates(12, make([]api.Span, 5)...), chain...)
	turned := with(rates(12, make([]api.Span, 5)...), pair(12, 0, -1, 3, 4), pair(0, 0, 1, -1, -1), pair(12, 1, 2, -1, -1), pair(0, 2, 3, -1, -1), pair(12, 3, 4, -1, -1))
	for hour := range 13 {
		for clock := range 5 {
			if a, b := offset(t, c, clock, hour), offset(t, turned, clock, hour); a != to(3+clock, 4+clock) || b != a {
				t.Errorf("Offset of %d at %d: %v, %v", clock, hour, a, b)
			}
			if a, b := apart(t, c, clock, 0, hour), apart(t, turned, clock, 0, hour); a != to(clock, clock) || b != a {
				t.Errorf("Apart of %d and 0 at %d: %v, %v", clock, hour, a, b)
			}
		}
	}
	if _, e := beat.Offset(with(c, pair(0, 0, -1, 2, 2)), 4, 0); e != api.ErrBeatFalse {
		t.Errorf("Offset of a chain that is torn: %d", e)
	}
}

// P2.5: the fewest clocks, of several lists the first one; comparisons with true time fall with their One; without comparisons the rates and steps decide.
func TestWrong(t *testing.T) {
	still := func(n int) api.BeatCellar { return rates(2, make([]api.Span, n)...) }
	stuck := withOpens(still(2), opened(1, 0, 100000, 100000), opened(1, 1, 100000, 100000), opened(1, 1, 1, 2))
	for i, x := range []struct {
		c    api.BeatCellar
		want []int
		e    api.Errno
	}{
		{cellar(), nil, api.OK}, {still(5), nil, api.OK}, {fullCellar(), nil, api.OK},
		{with(still(1), pair(0, 0, -1, 1, 1), pair(2, 0, -1, 2, 2)), []int{0}, api.OK}, {with(still(2), pair(0, 1, -1, 1, 1), pair(2, 1, -1, 2, 2)), []int{1}, api.OK},
		{with(still(2), pair(0, 0, 1, 1, 1), pair(2, 1, 0, 1, 1)), []int{0}, api.OK}, {with(still(2), pair(0, 0, 1, 1, 1), pair(2, 0, 1, 2, 2), pair(2, 1, -1, 1, 1)), []int{0}, api.OK},
		{with(still(3), pair(0, 0, 2, 1, 1), pair(1, 2, 0, 1, 1), pair(1, 1, 2, 0, 0), pair(2, 2, 1, 1, 1)), []int{2}, api.OK},
		{with(still(4), pair(0, 0, 1, 0, 0), pair(1, 0, 1, 1, 1), pair(0, 2, 3, 0, 0), pair(1, 2, 3, 1, 1)), []int{0, 2}, api.OK},
		{with(still(4), pair(0, 0, 1, 0, 0), pair(1, 0, 1, 1, 1), pair(0, 1, 2, 0, 0), pair(1, 1, 2, 1, 1), pair(0, 2, 3, 0, 0), pair(1, 2, 3, 1, 1)), []int{0, 2}, api.OK},
		{with(still(4), pair(0, 1, -1, 0, 0), pair(1, 1, -1, 1, 1), pair(0, 2, 3, 0, 0), pair(1, 2, 3, 1, 1)), []int{1, 2}, api.OK},
		{with(still(5), pair(0, 3, -1, 0, 0), pair(1, 3, -1, 1, 1), pair(0, 4, -1, 0, 0), pair(1, 4, -1, 1, 1), pair(0, 0, 4, 0, 0)), []int{3, 4}, api.OK},
		{with(still(5), pair(0, 0, -1, 100001, 200000), pair(0, 1, -1, 100001, 200000), pair(0, 2, -1, 100001, 200000), pair(0, 3, -1, 100001, 200000), pair(0, 4, -1, 100001, 200000)), []int{0, 1, 2, 3, 4}, api.OK},
		{stuck, nil, api.ErrBeatFalse}, {with(stuck, pair(0, 0, -1, 1, 1), pair(1, 0, -1, 2, 2)), nil, api.ErrBeatFalse},
	} {
		if l, e := beat.Wrong(x.c); !slices.Equal(l, x.want) || e != x.e {
			t.Errorf("Wrong %d: %v, %d", i, l, e)
		}
	}
}

// P2.6: the first one of several, and a difference of 0.
func TestBest(t *testing.T) {
	still := rates(2, make([]api.Span, 3)...)
	for i, x := range []struct {
		c                 api.BeatCellar
		hour, clock, wide int
	}{
		{still, 0, 0, 200000}, {with(still, pair(0, 1, -1, 0, 5), pair(2, 2, -1, 10, 15)), 1, 1, 5}, {with(still, pair(0, 1, -1, 0, 5), pair(2, 2, -1, 10, 14)), 1, 2, 4},
		{with(still, pair(0, 1, 2, 0, 0), pair(2, 2, -1, 7, 7)), 0, 1, 0}, {rates(2, to(0, 9), to(0, 8)), 2, 0, 200000}, {rates(2, to(1, 1), to(5, 5)), 2, 1, 199990}, {cellar(), 1, 1, 3},
	} {
		if clock, wide, e := beat.Best(x.c, x.hour); clock != x.clock || wide != x.wide || e != api.OK {
			t.Errorf("Best %d: %d, %d, %d", i, clock, wide, e)
		}
	}
}

// P2.1, P2.2, P2.3, P2.4, P2.6: of small cellars all truths are listed.
func TestSmallCellars(t *testing.T) {
	for near, cellars := range small() {
		for i, c := range cellars {
			list := truths(c, near)
			if len(list) == 0 {
				if _, e := beat.Offset(c, 0, 0); e != api.ErrBeatFalse {
					t.Errorf("near %d, cellar %d: Offset: %d", near, i, e)
				}
				continue
			}
			checkSpans(t, c, list)
			checkTruths(t, c, list)
			for hour := range c.Hours + 1 {
				best, least := 0, math.MaxInt
				for clock := range c.Rates {
					s := between(list, func(rows [][]int) int { return rows[clock][hour] })
					if s.High-s.Low < least {
						best, least = clock, s.High-s.Low
					}
				}
				if clock, wide, e := beat.Best(c, hour); clock != best || wide != least || e != api.OK {
					t.Errorf("near %d, cellar %d: Best at %d: %d, %d, %d", near, i, hour, clock, wide, e)
				}
			}
		}
	}
}

// checkSpans compares the spans that are told with those of listed truths.
func checkSpans(t *testing.T, c api.BeatCellar, list [][][]int) {
	for clock := range c.Rates {
		for hour := range c.Hours + 1 {
			want := between(list, func(rows [][]int) int { return rows[clock][hour] })
			if s := offset(t, c, clock, hour); s != want {
				t.Errorf("%v: Offset of %d at %d: %v instead of %v", c, clock, hour, s, want)
			}
			for other := range c.Rates {
				want := between(list, func(rows [][]int) int { return rows[clock][hour] - rows[other][hour] })
				if s := apart(t, c, clock, other, hour); s != want {
					t.Errorf("%v: Apart of %d and %d at %d: %v instead of %v", c, clock, other, hour, s, want)
				}
			}
			for until := range c.Hours + 1 {
				want := between(list, func(rows [][]int) int { return rows[clock][until] - rows[clock][hour] })
				if s := drift(t, c, clock, hour, until); s != want {
					t.Errorf("%v: Drift of %d from %d to %d: %v instead of %v", c, clock, hour, until, s, want)
				}
			}
		}
	}
}

// checkTruths asks of listed truths, and of what differs from them in one number by 1, whether they are truths.
func checkTruths(t *testing.T, c api.BeatCellar, list [][][]int) {
	listed := func(rows [][]int) bool {
		return slices.ContainsFunc(list, func(l [][]int) bool { return slices.EqualFunc(l, rows, slices.Equal[[]int]) })
	}
	for i := 0; i < len(list); i += 1 + len(list)/20 {
		for clock := range c.Rates {
			for hour := range c.Hours + 1 {
				for _, by := range []int{-1, 0, 1} {
					rows := rowsCopied(list[i])
					rows[clock][hour] += by
					if is, e := beat.IsTruth(c, rows); is != listed(rows) || e != api.OK {
						t.Errorf("%v: IsTruth of %v: %v, %d", c, rows, is, e)
					}
				}
			}
		}
	}
}

// P2.2, P2.3, P2.5: drawn cellars of all sizes are compared with the table.
func TestManyCellars(t *testing.T) {
	for i, c := range many(150) {
		want, can := fewest(c)
		if l, e := beat.Wrong(c); can && (!slices.Equal(l, want) || e != api.OK) || !can && e != api.ErrBeatFalse {
			t.Errorf("cellar %d: Wrong: %v, %d", i, l, e)
		}
		told, can := tabled(c)
		if !can {
			if _, e := beat.Offset(c, 0, 0); e != api.ErrBeatFalse {
				t.Errorf("cellar %d: Offset: %d", i, e)
			}
			continue
		}
		for clock := range c.Rates {
			for hour := range c.Hours + 1 {
				here := index(c, clock, hour)
				until, other := (hour*5+clock)%(c.Hours+1), (clock+hour)%len(c.Rates)
				if s := offset(t, c, clock, hour); s != told.apart(here, 0) {
					t.Errorf("cellar %d: Offset of %d at %d: %v", i, clock, hour, s)
				}
				if s := apart(t, c, clock, other, hour); s != told.apart(here, index(c, other, hour)) {
					t.Errorf("cellar %d: Apart of %d and %d at %d: %v", i, clock, other, hour, s)
				}
				if s := drift(t, c, clock, hour, until); s != told.apart(index(c, clock, until), here) {
					t.Errorf("cellar %d: Drift of %d from %d to %d: %v", i, clock, hour, until, s)
				}
			}
		}
	}
}
