package court_test

import (
	"math"
	"slices"
	"testing"

	"remontoir/api"
	"remontoir/court"
)

// changed is the case of the chapter with one change.
func changed(change func(c *api.CourtCase)) api.CourtCase {
	c := given()
	change(&c)
	return c
}

// numbers are some that are not from one number to another one.
func numbers(low, high int) map[string]int {
	return map[string]int{"one less": low - 1, "one more": high + 1, "all": math.MaxInt, "the least": math.MinInt, "far behind": 1 << 32, "far below": -1 << 32}
}

// spans are some that do not lie from one number to another one, or are none.
func spans(low, high int) map[string]api.Span {
	list := map[string]api.Span{"turned": to(high, low), "all turned": to(math.MaxInt, math.MinInt), "all": to(math.MinInt, math.MaxInt), "none": to(low+1, low)}
	for name, no := range numbers(low, high) {
		list["low: "+name] = to(no, high)
		list["high: "+name] = to(low, no)
		list["both: "+name] = to(no, no)
	}
	return list
}

// wrongCases are cases that are not valid, each by one thing.
func wrongCases() map[string]api.CourtCase {
	list := map[string]api.CourtCase{"none": {}}
	put := func(name string, change func(c *api.CourtCase)) { list[name] = changed(change) }
	put("no hours", func(c *api.CourtCase) { c.Calendar.Hours = 0 })
	put("25 hours", func(c *api.CourtCase) { c.Calendar.Hours, c.Each = 25, 1000 })
	put("no days", func(c *api.CourtCase) { c.Calendar.Days = 0 })
	put("a decree of no day", func(c *api.CourtCase) { c.Calendar.Decrees = []api.DialDecree{{Day: 1}} })
	put("a town too far ahead", func(c *api.CourtCase) { c.Town.Ahead = 1441 })
	put("a change behind the last tick", func(c *api.CourtCase) { c.Town.Changes[0].Tick = 40 })
	put("a change at 0", func(c *api.CourtCase) { c.Town.Changes[0].Tick = 0 })
	put("a change behind the ticks that a decree left", func(c *api.CourtCase) {
		c.Calendar.Decrees, c.Town.Changes[0].Tick = []api.DialDecree{{Day: 0}}, 39
	})
	put("7 entries", func(c *api.CourtCase) { c.Log = slices.Repeat(c.Log[:1], 7) })
	put("41 stages", func(c *api.CourtCase) { c.Calendar.Decrees, c.Each = []api.DialDecree{{Day: 0, Plus: true}}, 1 })
	put("80 stages", func(c *api.CourtCase) { c.Calendar.Days, c.Each = 2, 1 })
	put("44 stages", func(c *api.CourtCase) { c.Calendar.Days, c.Each = 11-1, 9 })
	for name, no := range numbers(1, 1000000) {
		put("each: "+name, func(c *api.CourtCase) { c.Each = no })
	}
	for name, no := range numbers(0, 3) {
		put("step: "+name, func(c *api.CourtCase) { c.Step = no })
	}
	for name, no := range spans(-30, 30) {
		put("first: "+name, func(c *api.CourtCase) { c.First = no })
	}
	for name, no := range spans(0, 39) {
		put("when first: "+name, func(c *api.CourtCase) { c.Log[0].When = no })
		put("when last: "+name, func(c *api.CourtCase) { c.Log[1].When = no })
	}
	for name, no := range spans(0, 60) {
		put("late first: "+name, func(c *api.CourtCase) { c.Log[0].Late = no })
		put("late last: "+name, func(c *api.CourtCase) { c.Log[1].Late = no })
	}
	return list
}

// asked is what one of the functions tells: its numbers, one after the other.
type asked struct {
	name string
	told []int
	e    api.Errno
}

// told are numbers, and how many there are.
func told(list []int) []int { return append(slices.Clone(list), len(list)) }

// aboutTick are the calls that ask about a tick.
func aboutTick(c api.CourtCase, tick int) []asked {
	errors, e := court.Errors(c, tick)
	readings, f := court.Shown(c, tick)
	var list []int
	for _, r := range readings {
		list = append(list, r.Day, r.Hour, r.Minute, r.Second)
	}
	return []asked{{"Errors", told(errors), e}, {"Shown", told(list), f}}
}

// aboutClaim is the call about a claim.
func aboutClaim(c api.CourtCase, claim api.CourtClaim) []asked {
	n, e := court.Verdict(c, claim)
	return []asked{{"Verdict", []int{n}, e}}
}

// aboutReading are the calls that fail only of the case.
func aboutReading(c api.CourtCase, r api.DialReading) []asked {
	ticks, e := court.When(c, r)
	errors, f := court.Truth(c)
	return []asked{{"When", told(ticks), e}, {"Truth", told(errors), f}}
}

// aboutAny are the calls that a case without a truth answers, too.
func aboutAny(c api.CourtCase, errors []int) []asked {
	is, e := court.IsTruth(c, errors)
	list, f := court.Wrong(c)
	return []asked{{"IsTruth", []int{number(is)}, e}, {"Wrong", told(list), f}, {"Check", nil, court.Check(c)}}
}

// checkErrors asks for an error of all calls, and for zero values with it.
func checkErrors(t *testing.T, where string, e api.Errno, calls ...[]asked) {
	t.Helper()
	for _, a := range slices.Concat(calls...) {
		if a.e != e || slices.ContainsFunc(a.told, func(n int) bool { return n != 0 }) {
			t.Errorf("%s: %s: %v, %d instead of %d", where, a.name, a.told, a.e, e)
		}
	}
}

// checkSame asks for an error of all calls, or for none.
func checkSame(t *testing.T, where string, e api.Errno, calls ...[]asked) {
	t.Helper()
	for _, a := range slices.Concat(calls...) {
		if a.e != e {
			t.Errorf("%s: %s: %d instead of %d", where, a.name, a.e, e)
		}
	}
}

// cases are those of samples.
func cases(list []sample) []api.CourtCase {
	var all []api.CourtCase
	for _, x := range list {
		all = append(all, x.c)
	}
	return all
}

// P10.1: which cases are valid.
func TestCheck(t *testing.T) {
	for name, c := range wrongCases() {
		if e := court.Check(c); e != api.ErrCourt {
			t.Errorf("%s: %d", name, e)
		}
	}
	for i, c := range slices.Concat(limits(), cases(small(100)), cases(drawn(100)), []api.CourtCase{long(), with(given(), slices.Repeat([]api.CourtEntry{torn()}, 4)...)}) {
		if e := court.Check(c); e != api.OK {
			t.Errorf("the valid case %d: %d", i, e)
		}
	}
}

// P10.1, P1: all functions return ErrCourt first, also where every other error applies, and zero values with it.
func TestWrongCaseFirst(t *testing.T) {
	for name, c := range wrongCases() {
		for _, tick := range []int{-1, 0, 39, 40, 1 << 40} {
			checkErrors(t, name, api.ErrCourt, aboutTick(c, tick), aboutReading(c, reading(0, 0, tick, 0)), aboutAny(c, []int{1, 1, 1, 1}), aboutAny(c, nil))
			checkErrors(t, name, api.ErrCourt, aboutClaim(c, said(to(tick, tick), reading(0, 0, 0, 6))), aboutClaim(c, isAhead(to(0, 9), tick)), aboutClaim(c, api.CourtClaim{Kind: tick}))
		}
	}
}

// P10.2, P10.4, P1: questions about ticks and claims that are none, also of a case that cannot be true.
func TestWrongQuestions(t *testing.T) {
	for _, c := range []api.CourtCase{given(), given(torn()), steady(to(5, 5))} {
		for name, no := range numbers(0, 39) {
			checkErrors(t, "the tick "+name, api.ErrCourtAsk, aboutTick(c, no))
		}
		for name, no := range numbers(0, 2) {
			checkErrors(t, "the kind "+name, api.ErrCourtAsk, aboutClaim(c, api.CourtClaim{Kind: no}), aboutClaim(c, api.CourtClaim{Kind: no, When: to(0, 39), Ticks: 3}))
		}
		for kind := range 3 {
			for name, no := range numbers(-30, 30) {
				checkErrors(t, "the ticks "+name, api.ErrCourtAsk, aboutClaim(c, api.CourtClaim{Kind: kind, Ticks: no}))
			}
			for name, no := range spans(0, 39) {
				checkErrors(t, "when "+name, api.ErrCourtAsk, aboutClaim(c, api.CourtClaim{Kind: kind, When: no}))
			}
		}
	}
}

// P10.1 to P10.4: a case that cannot be true has no other answer; only IsTruth and Wrong tell something of it.
func TestFalseCases(t *testing.T) {
	far := entry(to(0, 0), to(0, 60), reading(0, 0, 0, 0))
	far.Late.Low = 1 // said before the first tick
	for name, c := range map[string]api.CourtCase{
		"torn": given(torn()), "no such reading": given(heard(0, reading(0, 7, 0, 0))), "a reading of the calendar, but not of the town": given(heard(22, reading(0, 1, 1, 2))), "said before the first tick": given(far), "shown too far off": steady(to(-30, 30), heard(0, reading(0, 1, 0, 5))),
		"one step too much": steady(to(-1, 1), heard(9, reading(0, 0, 0, 9)), heard(10, reading(0, 0, 1, 1))), "behind the last tick": steady(to(1, 30), heard(39, reading(0, 1, 0, 9))), "all": steady(to(0, 0), slices.Repeat([]api.CourtEntry{torn(), heard(7, reading(0, 0, 0, 8))}, 3)...),
	} {
		for tick := range 40 {
			checkErrors(t, name, api.ErrCourtFalse, aboutTick(c, tick), aboutReading(c, reading(0, 0, tick/10, tick%10)), aboutClaim(c, isWithin(to(0, tick), 30)), aboutClaim(c, said(to(tick, 39), reading(0, 0, 0, 6))))
		}
		checkErrors(t, name, api.ErrCourtFalse, aboutReading(c, reading(-1, 99, 1<<40, math.MinInt)))
		if is := isTruth(t, c, []int{1, 1, 1, 1}); is || len(wrong(t, c)) == 0 {
			t.Errorf("%s: %v, %v", name, is, wrong(t, c))
		}
	}
}

// P10.1: the chapter's examples, bounds and lists that are too short, or too long.
func TestIsTruth(t *testing.T) {
	for i, x := range []struct {
		c      api.CourtCase
		errors []int
		want   bool
	}{
		{given(), []int{1, 1, 1, 1}, true}, {given(), []int{1, 2, 1, 0}, true}, {given(), []int{0, 0, 0, 0}, false}, {given(), []int{1, 0, -1, 1}, false}, {given(), []int{1, 0, -1, 0}, true}, {given(), []int{1, 2, 2, 1}, true}, {given(), []int{1, 1, 1, 2}, false},
		{given(), nil, false}, {given(), []int{1, 1, 1}, false}, {given(), []int{1, 1, 1, 1, 1}, false}, {given(), []int{1, math.MaxInt, 1, 1}, false}, {given(), []int{math.MinInt, 1, 1, 1}, false}, {given(), []int{1, 1, 1, 1 << 32}, false}, {given(), []int{2, 1, 1, 1}, false},
		{steady(to(-30, 30)), []int{30, 30, 30, 30}, true}, {steady(to(-30, 30)), []int{-30, -30, -30, -30}, true}, {steady(to(-30, 30)), []int{31, 31, 31, 31}, false}, {steady(to(-30, 30)), []int{30, 30, 30, 29}, false}, {steady(to(-29, 29)), []int{30, 30, 30, 30}, false}, {steady(to(-29, 29)), []int{-30, -30, -30, -30}, false},
		{changed(func(c *api.CourtCase) { c.Log, c.First, c.Step = nil, to(30, 30), 3 }), []int{30, 27, 30, 30}, true}, {changed(func(c *api.CourtCase) { c.Log, c.First, c.Step = nil, to(30, 30), 3 }), []int{30, 31, 30, 30}, false}, {changed(func(c *api.CourtCase) { c.Log, c.First, c.Step = nil, to(-30, -30), 3 }), []int{-30, -27, -30, -31}, false}, {changed(func(c *api.CourtCase) { c.Log, c.First, c.Step = nil, to(-30, -30), 3 }), []int{-30, -26, -29, -30}, false},
		{changed(func(c *api.CourtCase) { c.Each = 1000000 }), []int{1}, true}, {changed(func(c *api.CourtCase) { c.Each = 1000000 }), []int{0}, false}, {changed(func(c *api.CourtCase) { c.Each = 39 }), []int{1, 2}, true}, {changed(func(c *api.CourtCase) { c.Each = 39 }), []int{1}, false},
		// as late as it can be, and not a tick later
		{steady(to(0, 0), entry(to(9, 9), to(3, 5), reading(0, 0, 0, 4))), []int{0, 0, 0, 0}, true}, {steady(to(0, 0), entry(to(9, 9), to(3, 5), reading(0, 0, 0, 6))), []int{0, 0, 0, 0}, true}, {steady(to(0, 0), entry(to(9, 9), to(3, 5), reading(0, 0, 0, 3))), []int{0, 0, 0, 0}, false}, {steady(to(0, 0), entry(to(9, 9), to(3, 5), reading(0, 0, 0, 7))), []int{0, 0, 0, 0}, false}, {steady(to(0, 0), entry(to(8, 11), to(0, 0), reading(0, 0, 1, 1))), []int{0, 0, 0, 0}, true}, {steady(to(0, 0), entry(to(8, 11), to(0, 0), reading(0, 0, 1, 2))), []int{0, 0, 0, 0}, false},
		// a reading that comes twice, in either of two stages
		{steady(to(0, 0), entry(to(12, 22), to(0, 0), reading(0, 0, 1, 2))), []int{0, 0, 0, 0}, true}, {steady(to(0, 0), entry(to(13, 22), to(0, 0), reading(0, 0, 1, 2))), []int{0, 0, 0, 0}, true}, {steady(to(0, 0), entry(to(13, 21), to(0, 0), reading(0, 0, 1, 2))), []int{0, 0, 0, 0}, false},
	} {
		if is, e := court.IsTruth(x.c, x.errors); is != x.want || e != api.OK {
			t.Errorf("IsTruth %d: %v, %d", i, is, e)
		}
	}
}

// P10.2: the chapter's examples, and what is shown where it shows nothing, or the same twice.
func TestErrorsAndShown(t *testing.T) {
	r := func(minute, second int) api.DialReading { return reading(0, 0, minute, second) }
	early, late := steady(to(-3, 0)), steady(to(3, 5))
	twice := steady(to(4, 6))
	twice.Each, twice.First = 1000, to(-6, 6)
	twice.Log = []api.CourtEntry{heard(20, r(1, 5))}
	for i, x := range []struct {
		c      api.CourtCase
		tick   int
		errors []int
		shown  []api.DialReading
	}{
		{given(), 5, []int{1}, []api.DialReading{r(0, 6)}}, {given(), 15, []int{0, 1, 2}, []api.DialReading{r(1, 5), r(1, 6), r(1, 7)}}, {given(), 25, []int{-1, 0, 1, 2}, []api.DialReading{r(1, 4), r(1, 5), r(1, 6), r(1, 7)}}, {given(), 35, []int{0, 1}, []api.DialReading{reading(0, 1, 0, 5), reading(0, 1, 0, 6)}},
		{given(), 0, []int{1}, []api.DialReading{r(0, 1)}}, {given(), 9, []int{1}, []api.DialReading{r(1, 0)}}, {given(), 19, []int{0, 1, 2}, []api.DialReading{r(1, 9), r(1, 0), r(1, 1)}}, {given(), 39, []int{0, 1}, []api.DialReading{reading(0, 1, 0, 9)}},
		{early, 0, []int{-3, -2, -1, 0}, []api.DialReading{r(0, 0)}}, {early, 2, []int{-3, -2, -1, 0}, []api.DialReading{r(0, 0), r(0, 1), r(0, 2)}}, {late, 36, []int{3, 4, 5}, []api.DialReading{reading(0, 1, 0, 9)}}, {late, 37, []int{3, 4, 5}, nil}, {late, 0, []int{3, 4, 5}, []api.DialReading{r(0, 3), r(0, 4), r(0, 5)}},
		{twice, 20, []int{-5, 5}, []api.DialReading{r(1, 5), r(1, 5)}}, {twice, 4, []int{-5, 5}, []api.DialReading{r(0, 9)}}, {twice, 35, []int{-5, 5}, []api.DialReading{reading(0, 1, 0, 0)}},
		{steady(to(-30, -30)), 29, []int{-30}, nil}, {steady(to(-30, -30)), 30, []int{-30}, []api.DialReading{r(0, 0)}}, {steady(to(30, 30)), 9, []int{30}, []api.DialReading{reading(0, 1, 0, 9)}}, {steady(to(30, 30)), 10, []int{30}, nil},
	} {
		if list, e := court.Errors(x.c, x.tick); !slices.Equal(list, x.errors) || e != api.OK {
			t.Errorf("Errors %d: %v, %d", i, list, e)
		}
		if list, e := court.Shown(x.c, x.tick); !slices.Equal(list, x.shown) || e != api.OK {
			t.Errorf("Shown %d: %v, %d", i, list, e)
		}
	}
}

// P10.3: the chapter's examples, readings that are none, and one that is shown at a tick in two ways.
func TestWhen(t *testing.T) {
	twice := steady(to(-5, 5))
	plus := steady(to(0, 1))
	plus.Calendar.Decrees = []api.DialDecree{{Day: 0, Plus: true}}
	for i, x := range []struct {
		c    api.CourtCase
		r    api.DialReading
		want []int
	}{
		{given(), reading(0, 0, 1, 5), []int{13, 14, 15, 23, 24, 25, 26}}, {given(), reading(0, 1, 1, 0), nil}, {given(), reading(0, 0, 0, 6), []int{5}}, {given(), reading(0, 1, 0, 2), []int{31, 32}}, {given(), reading(0, 0, 0, 0), nil}, {given(), reading(0, 1, 0, 9), []int{38, 39}},
		{given(), reading(0, 0, 0, 10), nil}, {given(), reading(0, 0, 2, 0), nil}, {given(), reading(1, 0, 0, 0), nil}, {given(), reading(-1, 1, 1, 9), nil}, {given(), reading(math.MinInt, math.MaxInt, math.MaxInt, math.MinInt), nil}, {given(), reading(1<<62, 1<<62, 1<<62, 6), nil},
		{twice, reading(0, 0, 1, 5), []int{10, 11, 12, 13, 14, 15, 16, 17, 18, 19, 20, 21, 22, 23, 24, 25, 26, 27, 28, 29, 30}}, {steady(to(-5, -5)), reading(0, 0, 0, 0), []int{5}}, {steady(to(5, 5)), reading(0, 0, 0, 4), nil}, {steady(to(5, 5)), reading(0, 0, 0, 5), []int{0}}, {steady(to(-5, -5)), reading(0, 1, 0, 5), nil}, {steady(to(-5, -5)), reading(0, 1, 0, 4), []int{39}}, {steady(to(-5, 0)), reading(0, 1, 0, 5), []int{35, 36, 37, 38, 39}},
		{plus, reading(0, 1, 0, 10), []int{39, 40}}, {steady(to(0, 1)), reading(0, 1, 0, 10), nil},
	} {
		if list, e := court.When(x.c, x.r); !slices.Equal(list, x.want) || e != api.OK {
			t.Errorf("When %d: %v, %d", i, list, e)
		}
	}
}

// P10.4: the chapter's examples, and claims at the edges.
func TestVerdict(t *testing.T) {
	r := func(minute, second int) api.DialReading { return reading(0, 0, minute, second) }
	for i, x := range []struct {
		c     api.CourtCase
		claim api.CourtClaim
		want  int
	}{
		{given(), said(to(15, 15), r(1, 5)), 1}, {given(), said(to(10, 19), r(1, 5)), 2}, {given(), said(to(35, 35), reading(0, 1, 0, 9)), 0}, {given(), said(to(13, 15), r(1, 5)), 2}, {given(), said(to(14, 15), r(1, 5)), 1}, {given(), said(to(14, 26), r(1, 5)), 2}, {given(), said(to(14, 25), r(1, 5)), 2}, {given(), said(to(14, 23), r(1, 5)), 1}, {given(), said(to(16, 22), r(1, 5)), 0}, {given(), said(to(16, 26), r(1, 5)), 2}, {given(), said(to(16, 25), r(1, 5)), 1},
		{given(), said(to(0, 39), reading(0, 1, 1, 0)), 0}, {given(), said(to(0, 39), reading(1<<62, -1, 1<<40, 77)), 0}, {given(), said(to(5, 5), r(0, 6)), 2}, {given(), said(to(6, 39), r(0, 6)), 0}, {given(), api.CourtClaim{When: to(5, 5), Reading: r(0, 6), Ticks: 30}, 2},
		{given(), isAhead(to(0, 9), 1), 2}, {given(), isAhead(to(0, 39), 0), 1}, {given(), isAhead(to(0, 9), 2), 0}, {given(), isAhead(to(0, 0), 1), 2}, {given(), isAhead(to(9, 10), 1), 1}, {given(), isAhead(to(10, 10), 0), 2}, {given(), isAhead(to(10, 19), 2), 1}, {given(), isAhead(to(10, 19), 3), 0}, {given(), isAhead(to(19, 20), 0), 1}, {given(), isAhead(to(20, 29), -1), 2}, {given(), isAhead(to(29, 30), 2), 0}, {given(), isAhead(to(0, 39), -30), 2}, {given(), isAhead(to(39, 39), 30), 0}, {steady(to(30, 30)), isAhead(to(0, 39), 30), 2}, {steady(to(-30, -29)), isAhead(to(0, 39), -29), 1},
		{given(), isWithin(to(0, 39), 2), 2}, {given(), isWithin(to(0, 39), 1), 1}, {given(), isWithin(to(0, 39), 0), 0}, {given(), isWithin(to(30, 39), 0), 1}, {given(), isWithin(to(30, 39), 1), 2}, {given(), isWithin(to(20, 29), 0), 1}, {given(), isWithin(to(30, 30), -1), 0}, {steady(to(0, 0)), isWithin(to(0, 0), -1), 0}, {steady(to(0, 0)), isWithin(to(0, 39), 0), 2}, {steady(to(-30, 30)), isWithin(to(0, 39), 30), 2}, {steady(to(-30, 30)), isWithin(to(0, 39), 29), 1}, {steady(to(-30, -30)), isWithin(to(0, 0), 29), 0}, {steady(to(-30, -30)), isWithin(to(0, 0), -30), 0}, {api.CourtCase{Calendar: given().Calendar, Each: 40}, api.CourtClaim{}, 2},
	} {
		if n, e := court.Verdict(x.c, x.claim); n != x.want || e != api.OK {
			t.Errorf("Verdict %d: %d, %d", i, n, e)
		}
	}
}

// P10.5: the chapter's example, and of several lists the first one.
func TestWrong(t *testing.T) {
	none := heard(0, reading(0, 7, 0, 0))
	other := heard(8, reading(0, 0, 0, 8))
	for i, x := range []struct {
		c    api.CourtCase
		want []int
	}{
		{given(), nil}, {given(torn()), []int{0}}, {given(torn(), other), []int{0}}, {given(heard(6, reading(0, 0, 0, 7)), torn()), []int{3}}, {given(none), []int{2}}, {given(none, none, none, none), []int{2, 3, 4, 5}}, {given(none, torn()), []int{0, 2}}, {steady(to(5, 5)), nil},
		{steady(to(-1, 1), torn(), heard(7, reading(0, 0, 0, 8)), other, heard(8, reading(0, 0, 0, 9))), []int{0, 2}}, {steady(to(-1, 1), torn(), heard(7, reading(0, 0, 0, 8)), heard(8, reading(0, 0, 0, 9)), other), []int{0, 3}}, {steady(to(1, 1), torn(), torn(), other, other, torn(), other), []int{0, 1, 2, 3, 4, 5}}, {steady(to(-1, 1), torn(), heard(7, reading(0, 0, 0, 8)), heard(7, reading(0, 0, 0, 6))), []int{0, 1}},
	} {
		if list, e := court.Wrong(x.c); !slices.Equal(list, x.want) || e != api.OK {
			t.Errorf("Wrong %d: %v, %d", i, list, e)
		}
	}
}
