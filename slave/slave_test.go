package slave_test

import (
	"math"
	"slices"
	"testing"

	"remontoir/api"
	"remontoir/slave"
)

// fullLine is as great as a line can be: four slave clocks, and ten events of sixty pulses, of which three can be lost each.
func fullLine() api.SlaveLine {
	l := api.SlaveLine{Ring: 60, Starts: []api.SlaveStart{{Shown: 0, Last: 0}, {Shown: 59, Last: 1}, {Shown: 20, Last: 0}, {Shown: 21, Last: 1}}}
	for i := range 10 {
		l.Events = append(l.Events, send(i%2, 60, 3))
	}
	return l
}

// lookedAt is one with as many events, five of which are looks, at one slave clock and the other one in turn; they tell the truth if nothing was lost and they are off by 0.
func lookedAt(off int) api.SlaveLine {
	l := api.SlaveLine{Ring: 60, Starts: []api.SlaveStart{{Shown: 0, Last: 0}, {Shown: 30, Last: 1}}}
	for i := range 5 {
		l.Events = append(l.Events, send(1, 60, 3), look(i%2, (i%2*29+off)%60)) // a whole ring, and for the second one a pulse less at first
	}
	return l
}

// odd is the line of the chapter with a look and home pulses some of whose fields do not matter.
func odd() api.SlaveLine {
	return given(api.SlaveEvent{Kind: api.SlaveLook, First: 9, Count: 7, Lost: 99, Shown: 0}, api.SlaveEvent{Kind: api.SlaveHome, First: -7, Who: 9, Shown: 99},
		api.SlaveEvent{Kind: api.SlaveSend, Who: -4, Shown: math.MinInt}, api.SlaveEvent{Kind: api.SlaveLook, First: math.MinInt, Count: math.MaxInt, Lost: -1, Shown: 0}, api.SlaveEvent{Kind: api.SlaveHome, First: math.MaxInt, Count: 3, Who: math.MinInt, Shown: -1})
}

// changed is a line of two slave clocks with one change.
func changed(change func(l *api.SlaveLine)) api.SlaveLine {
	l := two(send(0, 2, 1), home(1, 0), look(1, 4))
	change(&l)
	return l
}

// numbers are some that are not from 0 to a number.
func numbers(most int) map[string]int {
	return map[string]int{"-1": -1, "one more": most + 1, "all": math.MaxInt, "the least": math.MinInt, "far behind": 1 << 32, "far below": -1 << 32}
}

// wrongLines are lines that are not valid, each by one thing.
func wrongLines() map[string]api.SlaveLine {
	list := map[string]api.SlaveLine{
		"none":           {},
		"ring: 0":        changed(func(l *api.SlaveLine) { l.Ring = 0 }),
		"ring: 1":        alone(1, 0, 0),
		"ring: too few":  changed(func(l *api.SlaveLine) { l.Ring = 3 }),
		"no clocks":      {Ring: 5},
		"no clocks left": changed(func(l *api.SlaveLine) { l.Starts = l.Starts[:0] }),
		"5 clocks":       changed(func(l *api.SlaveLine) { l.Starts = make([]api.SlaveStart, 5) }),
		"11 events":      with(two(), slices.Repeat([]api.SlaveEvent{send(0, 0, 0)}, 11)...),
		"11 looks":       with(two(), slices.Repeat([]api.SlaveEvent{look(0, 1)}, 11)...),
	}
	put := func(name string, change func(l *api.SlaveLine)) { list[name] = changed(change) }
	for name, no := range numbers(60) {
		put("ring: "+name, func(l *api.SlaveLine) { l.Ring = no })
		put("count of a send: "+name, func(l *api.SlaveLine) { l.Events[0].Count = no })
		put("count of a home: "+name, func(l *api.SlaveLine) { l.Events[1].Count = no })
	}
	for name, no := range numbers(4) {
		put("shown first: "+name, func(l *api.SlaveLine) { l.Starts[0].Shown = no })
		put("shown last: "+name, func(l *api.SlaveLine) { l.Starts[1].Shown = no })
		put("shown to a look: "+name, func(l *api.SlaveLine) { l.Events[2].Shown = no })
	}
	for name, no := range numbers(3) {
		put("lost of a send: "+name, func(l *api.SlaveLine) { l.Events[0].Lost = no })
		put("lost of a home: "+name, func(l *api.SlaveLine) { l.Events[1].Lost = no })
	}
	for name, no := range numbers(2) {
		put("kind: "+name, func(l *api.SlaveLine) { l.Events[0].Kind = no })
		put("the last kind: "+name, func(l *api.SlaveLine) { l.Events[2].Kind = no })
	}
	for name, no := range numbers(1) {
		put("sign: "+name, func(l *api.SlaveLine) { l.Events[0].First = no })
		put("last: "+name, func(l *api.SlaveLine) { l.Starts[1].Last = no })
		put("who: "+name, func(l *api.SlaveLine) { l.Events[2].Who = no })
	}
	return list
}

// falseLines are valid lines of which the first slave clock cannot be as its events say.
func falseLines() map[string]api.SlaveLine {
	return map[string]api.SlaveLine{
		"at once": alone(2, 0, 0, look(0, 1)), "too far": given(look(0, 7)), "between": given(look(0, 11)), "twice": given(look(0, 0), look(0, 1)), "later": given(look(0, 0), send(0, 1, 0), look(0, 0)),
		"home pulses that stop": alone(60, 59, 0, home(60, 3), look(0, 1)), "a pulse in vain": two(send(0, 1, 1), look(0, 2)), "none sent": two(send(1, 0, 3), home(0, 3), look(0, 2)), "one of two": two(look(1, 3), look(0, 3)), "full": lookedAt(7),
	}
}

// asked is what one of the functions tells: its numbers, one after the other.
type asked struct {
	name string
	told []int
	e    api.Errno
}

func number(is bool) int {
	if is {
		return 1
	}
	return 0
}

// byClock are all calls with a slave clock. Of a story, of which any will do, only is told how many pulses are lost.
func byClock(l api.SlaveLine, who int) []asked {
	can, e1 := slave.Can(l, who)
	s, e2 := slave.Lost(l, who)
	story, e3 := slave.Story(l, who)
	return []asked{{"Can", append(can, len(can)), e1}, {"Lost", []int{s.Low, s.High}, e2}, {"Story", []int{len(story), many(story)}, e3}}
}

// storyAsked is the call that asks about a story.
func storyAsked(l api.SlaveLine, who int, story [][]int) []asked {
	is, e := slave.IsStory(l, who, story)
	return []asked{{"IsStory", []int{number(is)}, e}}
}

// byMinute are the calls with a minute.
func byMinute(l api.SlaveLine, minute int) []asked {
	is, e1 := slave.Sets(l, minute, planned(0, 59, 1, 3))
	p, e2 := slave.Set(l, minute)
	return []asked{{"Sets", []int{number(is)}, e1}, {"Set", []int{p.Pre, p.Home, p.First, p.Send}, e2}}
}

// planAsked is the call that asks about a plan.
func planAsked(l api.SlaveLine, minute int, p api.SlavePlan) []asked {
	is, e := slave.Sets(l, minute, p)
	return []asked{{"Sets", []int{number(is)}, e}}
}

// homesAsked is the call that asks for home pulses.
func homesAsked(l api.SlaveLine, lost int) []asked {
	n, e := slave.Homes(l, lost)
	return []asked{{"Homes", []int{n}, e}}
}

// wrongAsked is the call that asks for wrong looks.
func wrongAsked(l api.SlaveLine) []asked {
	list, e := slave.Wrong(l)
	return []asked{{"Wrong", append(list, len(list)), e}}
}

// checkErrors asks for an error of all calls, and for zero values with it.
func checkErrors(t *testing.T, where string, e api.Errno, calls ...[]asked) {
	t.Helper()
	for _, a := range slices.Concat(calls...) {
		if a.e != e || slices.ContainsFunc(a.told, func(n int) bool { return n != 0 }) {
			t.Errorf("%s: %s: %v, %d instead of %d", where, a.name, a.told, a.e, e)
		}
	}
}

// P7.1: which lines are valid.
func TestCheck(t *testing.T) {
	for name, l := range wrongLines() {
		if e := slave.Check(l); e != api.ErrSlave {
			t.Errorf("%s: %d", name, e)
		}
	}
	edges := []api.SlaveLine{alone(2, 0, 0), alone(2, 1, 1, send(1, 60, 3), home(60, 3), look(0, 1), look(0, 0), send(0, 0, 0), home(0, 0)), alone(60, 59, 1, look(0, 59)), changed(func(*api.SlaveLine) {})}
	for i, l := range slices.Concat(drawn(60), small(60), edges, []api.SlaveLine{given(), two(), odd(), fullLine(), lookedAt(0), lookedAt(7)}) {
		if e := slave.Check(l); e != api.OK {
			t.Errorf("the valid line %d: %d", i, e)
		}
	}
	for name, l := range falseLines() {
		if e := slave.Check(l); e != api.OK {
			t.Errorf("%s: %d", name, e)
		}
	}
}

// P7.1, P1: all functions return ErrSlave first, also where every other error applies, and zero values with it.
func TestWrongLineFirst(t *testing.T) {
	for name, l := range wrongLines() {
		for _, no := range []int{-1, 0, 1, 5, 60} {
			checkErrors(t, name, api.ErrSlave, byClock(l, no), storyAsked(l, no, nil), storyAsked(l, no, [][]int{nil, nil, nil}), byMinute(l, no), planAsked(l, no, planned(no, 0, 0, 0)), homesAsked(l, no), wrongAsked(l))
		}
	}
}

// P7.1, P7.5, P7.6, P1: wrong questions come before looks that cannot be; these come with zero values, too.
func TestErrors(t *testing.T) {
	lines := falseLines()
	lines["true"], lines["of the chapter"] = alone(2, 0, 0, look(0, 0)), given(look(0, 0))
	for name, l := range lines {
		for _, no := range numbers(len(l.Starts) - 1) {
			checkErrors(t, name, api.ErrSlaveAsk, byClock(l, no), storyAsked(l, no, nil))
		}
		for _, no := range numbers(l.Ring - 1) {
			checkErrors(t, name, api.ErrSlaveAsk, byMinute(l, no))
		}
		for _, no := range numbers(1) {
			checkErrors(t, name, api.ErrSlaveAsk, planAsked(l, 0, planned(-1, 0, no, 0)))
		}
		for _, no := range []int{-2, 2, math.MinInt, math.MaxInt} {
			checkErrors(t, name, api.ErrSlaveAsk, planAsked(l, 0, planned(no, 0, 0, 0)))
		}
		for _, no := range numbers(60) {
			checkErrors(t, name, api.ErrSlaveAsk, planAsked(l, 0, planned(0, no, 0, 0)), planAsked(l, 0, planned(1, 0, 1, no)))
		}
		for _, no := range numbers(3) {
			checkErrors(t, name, api.ErrSlaveAsk, homesAsked(l, no))
		}
	}
	for name, l := range falseLines() {
		checkErrors(t, name, api.ErrSlaveFalse, byClock(l, 0), byMinute(l, 0), byMinute(l, l.Ring-1), homesAsked(l, 0), homesAsked(l, 3), planAsked(l, 1, planned(-1, 60, 1, 60)), planAsked(l, 1, planned(1, 0, 0, 0)))
		if is := isStory(t, l, 0, make([][]int, len(l.Events))); is {
			t.Errorf("%s: it has a story", name)
		}
	}
	second := two(look(1, 0)) // the first slave clock can be so, but not all can
	checkErrors(t, "the other one", api.ErrSlaveFalse, byClock(second, 1), byMinute(second, 0), homesAsked(second, 1))
	if list := can(t, second, 0); !slices.Equal(list, []int{1}) {
		t.Errorf("beside one that cannot be: %v", list)
	}
}

// P7.2 to P7.6: the examples of the chapter.
func TestExamples(t *testing.T) {
	if a, b, c := can(t, given(), 0), can(t, given(look(0, 0)), 0), can(t, given(look(0, 7)), 0); !slices.Equal(a, []int{0, 1, 2}) || !slices.Equal(b, []int{0}) || len(c) != 0 {
		t.Errorf("Can: %v, %v, %v", a, b, c)
	}
	lost := good[api.Span](t, "Lost")
	if a, b := lost(slave.Lost(given(), 0)), lost(slave.Lost(given(look(0, 0)), 0)); a != to(0, 1) || b != to(1, 1) {
		t.Errorf("Lost: %v, %v", a, b)
	}
	if !isStory(t, given(), 0, [][]int{{1}}) || isStory(t, given(), 0, [][]int{{1, 2}}) {
		t.Error("IsStory")
	}
	if a, b := wrong(t, given(look(0, 7))), wrong(t, given(look(0, 0), look(0, 1), look(0, 0))); !slices.Equal(a, []int{1}) || !slices.Equal(b, []int{2}) {
		t.Errorf("Wrong: %v, %v", a, b)
	}
	set := good[api.SlavePlan](t, "Set")
	if a, b, c := set(slave.Set(given(), 5)), set(slave.Set(given(), 0)), set(slave.Set(given(look(0, 0)), 5)); a != planned(-1, 10, 1, 6) || b != planned(-1, 10, 1, 1) || c != planned(-1, 0, 0, 5) {
		t.Errorf("Set: %v, %v, %v", a, b, c)
	}
	homes := good[int](t, "Homes")
	if a, b := homes(slave.Homes(given(), 0)), homes(slave.Homes(given(), 2)); a != 11 || b != 13 {
		t.Errorf("Homes: %d, %d", a, b)
	}
	// that of DOC.md: the second one of four pulses is lost
	if list := can(t, given(look(0, 0)), 0); !slices.Equal(list, []int{0}) || !isStory(t, given(look(0, 0)), 0, [][]int{{1}, nil}) {
		t.Errorf("a slave clock that shows 10: %v", list)
	}
}

// P7.2: signs in vain, home pulses that stop, bounds on what can be lost, and fields that do not matter.
func TestCan(t *testing.T) {
	for i, x := range []struct {
		l    api.SlaveLine
		who  int
		can  []int
		lost api.Span
	}{
		{alone(2, 1, 0), 0, []int{1}, to(0, 0)}, {alone(2, 1, 0, send(1, 1, 0)), 0, []int{0}, to(0, 0)}, {alone(2, 1, 0, send(0, 1, 0)), 0, []int{1}, to(0, 0)}, {alone(2, 1, 0, send(0, 60, 0)), 0, []int{0}, to(0, 0)}, {alone(60, 59, 1, send(0, 60, 0)), 0, []int{59}, to(0, 0)}, {alone(60, 59, 1, send(1, 60, 0)), 0, []int{58}, to(0, 0)},
		// a sign in vain stays the last one
		{alone(9, 0, 0, send(0, 1, 0), send(0, 1, 0), send(1, 1, 0), send(1, 1, 0)), 0, []int{1}, to(0, 0)},
		// more can be lost than there are
		{alone(9, 3, 0, send(1, 2, 3)), 0, []int{3, 4, 5}, to(0, 2)}, {alone(9, 3, 0, send(0, 2, 3)), 0, []int{3, 4}, to(0, 2)}, {alone(9, 3, 0, home(1, 3)), 0, []int{3, 4}, to(0, 1)}, {alone(9, 3, 0, send(1, 0, 3), home(0, 3)), 0, []int{3}, to(0, 0)},
		// three lost ones, one by one, cost two minutes each, and one less at the end
		{alone(60, 0, 0, send(1, 60, 3)), 0, []int{0, 54, 55, 56, 57, 58, 59}, to(0, 3)}, {alone(60, 0, 0, send(1, 60, 3), look(0, 54)), 0, []int{54}, to(3, 3)}, {alone(60, 0, 0, send(1, 60, 3), look(0, 55)), 0, []int{55}, to(3, 3)}, {alone(60, 0, 0, send(1, 60, 3), look(0, 58)), 0, []int{58}, to(1, 2)}, {alone(60, 0, 0, send(1, 60, 3), look(0, 57)), 0, []int{57}, to(2, 3)},
		// home pulses: from 0 nothing goes on, and the sign stays
		{alone(9, 0, 1, home(60, 3)), 0, []int{0}, to(0, 3)}, {alone(9, 8, 1, home(1, 0), send(1, 1, 0)), 0, []int{0}, to(0, 0)}, {alone(9, 8, 1, home(1, 0), send(0, 1, 0)), 0, []int{1}, to(0, 0)}, {alone(9, 1, 1, home(9, 3)), 0, []int{0, 7, 8}, to(0, 3)}, {alone(9, 1, 1, home(9, 3), look(0, 0)), 0, []int{0}, to(0, 1)}, {alone(9, 1, 1, home(9, 3), look(0, 7)), 0, []int{7}, to(3, 3)}, {alone(60, 1, 0, home(59, 0)), 0, []int{0}, to(0, 0)}, {alone(60, 1, 0, home(58, 0)), 0, []int{59}, to(0, 0)},
		// looks tell what was lost before and what comes then
		{given(look(0, 1), send(0, 1, 0)), 0, []int{1}, to(1, 1)}, {given(look(0, 1), send(1, 1, 0)), 0, []int{2}, to(1, 1)}, {given(look(0, 0), send(0, 1, 0)), 0, []int{1}, to(1, 1)}, {given(look(0, 0), look(0, 0), send(1, 1, 1)), 0, []int{0}, to(1, 2)}, {given(send(0, 4, 1), look(0, 2)), 0, []int{2}, to(2, 2)}, {given(send(0, 1, 0), look(0, 2)), 0, nil, api.Span{}},
		{two(send(0, 3, 1), look(0, 3)), 1, []int{0, 1, 4}, to(0, 1)}, {two(send(0, 3, 1), look(0, 3)), 0, []int{3}, to(0, 1)}, {two(send(0, 3, 1), look(0, 2)), 0, []int{2}, to(1, 1)}, {odd(), 0, []int{0}, to(1, 1)},
		{lookedAt(0), 0, []int{0}, to(0, 0)}, {lookedAt(0), 1, []int{23, 24, 25, 26, 27, 28, 29}, to(0, 4)}, {lookedAt(7), 1, nil, api.Span{}},
	} {
		if x.can == nil {
			checkErrors(t, "TestCan", api.ErrSlaveFalse, byClock(x.l, x.who))
			continue
		}
		if list, e := slave.Can(x.l, x.who); !slices.Equal(list, x.can) || e != api.OK {
			t.Errorf("Can %d: %v, %d", i, list, e)
		}
		if s, e := slave.Lost(x.l, x.who); s != x.lost || e != api.OK {
			t.Errorf("Lost %d: %v, %d", i, s, e)
		}
	}
}

// P7.3: what is no story: too many, too few or other pulses, lists in another order, and looks that it contradicts.
func TestStories(t *testing.T) {
	looked, homed := given(look(0, 0)), given(home(3, 2), look(0, 3), look(0, 3))
	for i, x := range []struct {
		l     api.SlaveLine
		story [][]int
		want  bool
	}{
		{given(), [][]int{nil}, true}, {given(), [][]int{{}}, true}, {given(), [][]int{{0}}, true}, {given(), [][]int{{3}}, true}, {given(), nil, false}, {given(), [][]int{}, false}, {given(), [][]int{nil, nil}, false}, {given(), [][]int{{4}}, false}, {given(), [][]int{{-1}}, false}, {given(), [][]int{{0, 1}}, false}, {given(), [][]int{{math.MaxInt}}, false}, {given(), [][]int{{math.MinInt}}, false}, {given(), [][]int{make([]int, 9999)}, false},
		{looked, [][]int{{0}, nil}, true}, {looked, [][]int{{1}, {}}, true}, {looked, [][]int{{2}, nil}, true}, {looked, [][]int{{3}, nil}, false}, {looked, [][]int{nil, nil}, false}, {looked, [][]int{{1}, {0}}, false}, {looked, [][]int{{1}}, false}, {looked, [][]int{{1}, nil, nil}, false},
		{homed, [][]int{nil, {0, 2}, nil, nil}, true}, {homed, [][]int{nil, {1, 2}, nil, nil}, true}, {homed, [][]int{nil, {2, 0}, nil, nil}, false}, {homed, [][]int{nil, {1, 1}, nil, nil}, false}, {homed, [][]int{nil, {0, 1, 2}, nil, nil}, false}, {homed, [][]int{nil, {2, 3}, nil, nil}, false}, {homed, [][]int{nil, {-1, 0}, nil, nil}, false}, {homed, [][]int{nil, {0}, nil, nil}, false}, {homed, [][]int{{3}, {0}, nil, nil}, true}, {homed, [][]int{{3}, {0, 1}, nil, nil}, false},
		{alone(9, 3, 0), nil, true}, {alone(9, 3, 0), [][]int{nil}, false}, {alone(9, 3, 0, send(1, 2, 3)), [][]int{{0, 1}}, true}, {alone(9, 3, 0, send(1, 2, 3)), [][]int{{0, 1, 2}}, false}, {alone(9, 3, 0, home(0, 3)), [][]int{{0}}, false}, {alone(60, 3, 0, send(1, 60, 3)), [][]int{{0, 58, 59}}, true}, {alone(60, 3, 0, send(1, 60, 3)), [][]int{{57, 58, 59, 60}}, false},
		{odd(), [][]int{{1}, nil, nil, nil, nil, nil}, true}, {odd(), [][]int{{1}, {0}, nil, nil, nil, nil}, false}, {odd(), [][]int{{1}, nil, nil, nil, {0}, nil}, false}, {odd(), [][]int{{1}, nil, nil, nil, nil, {0}}, false},
		{two(look(1, 0)), [][]int{nil}, true}, {two(look(0, 3)), [][]int{nil}, false},
	} {
		if is, e := slave.IsStory(x.l, 0, x.story); is != x.want || e != api.OK {
			t.Errorf("IsStory %d: %v, %d", i, is, e)
		}
	}
	for i, l := range []api.SlaveLine{given(), looked, homed, odd(), two(), two(look(1, 0)), fullLine(), lookedAt(0), alone(9, 1, 1, home(9, 3), look(0, 7)), alone(60, 0, 0, send(1, 60, 3), send(0, 60, 3), look(0, 48))} {
		checkStory(t, i, l, 0)
	}
}

// checkStory asks for a story with as few pulses lost as any.
func checkStory(t *testing.T, where int, l api.SlaveLine, who int) {
	t.Helper()
	story, e := slave.Story(l, who)
	s, f := slave.Lost(l, who)
	if e != api.OK || f != api.OK || !isStory(t, l, who, story) || many(story) != s.Low {
		t.Errorf("line %d: Story of %d: %v, %d, with %v lost", where, who, story, e, s)
	}
}

// P7.4: the fewest looks, and of several lists the first one.
func TestWrong(t *testing.T) {
	still := func(shown ...int) api.SlaveLine { // looks at a slave clock that stays
		l := alone(60, 5, 0)
		for _, s := range shown {
			l = with(l, look(0, s))
		}
		return l
	}
	for i, x := range []struct {
		l    api.SlaveLine
		want []int
	}{
		{given(), nil}, {fullLine(), nil}, {lookedAt(0), nil}, {two(), nil}, {two(look(0, 1), look(1, 3)), nil}, {odd(), nil},
		{still(5, 5), nil}, {still(5, 6, 5), []int{1}}, {still(6, 6, 5), []int{0, 1}}, {still(0, 1, 2, 3, 4, 6, 7, 8, 9, 10), []int{0, 1, 2, 3, 4, 5, 6, 7, 8, 9}},
		// looks that contradict each other: the first ones, if they are as many
		{given(look(0, 0), look(0, 1)), []int{1}}, {given(look(0, 1), look(0, 0), look(0, 1), look(0, 0)), []int{1, 3}}, {given(look(0, 7), look(0, 8)), []int{1, 2}}, {given(look(0, 0), look(0, 1), look(0, 1)), []int{1}}, {given(look(0, 0), look(0, 2), look(0, 1), look(0, 2)), []int{1, 3}},
		// what was lost before is looked for behind
		{given(look(0, 1), home(11, 0), look(0, 1)), []int{3}}, {given(look(0, 0), send(0, 1, 0), look(0, 0), send(1, 1, 0), look(0, 1)), []int{3, 5}}, {given(look(0, 2), send(0, 1, 1), look(0, 1), look(0, 1)), []int{1}}, {given(look(0, 2), send(0, 1, 1), look(0, 1), look(0, 3)), []int{3}},
		// two slave clocks, each by itself
		{two(look(1, 0), look(0, 2), look(0, 1)), []int{0, 1}}, {two(look(1, 0), look(0, 1), look(1, 0), look(0, 0), look(1, 3)), []int{0, 2, 3}}, {two(send(0, 1, 1), look(0, 2), look(1, 4), look(1, 3), look(0, 0)), []int{1, 2, 4}},
		// of lists as long the first one, even if the slave clock loses more then
		{alone(20, 0, 0, send(1, 4, 3), look(0, 4), look(0, 0), look(0, 2)), []int{1, 2}}, {alone(20, 0, 0, send(1, 4, 3), look(0, 4), look(0, 2), look(0, 2)), []int{1}},
	} {
		if list, e := slave.Wrong(x.l); !slices.Equal(list, x.want) || e != api.OK {
			t.Errorf("Wrong %d: %v, %d instead of %v", i, list, e, x.want)
		}
	}
	for name, l := range falseLines() {
		if list := wrong(t, l); !slices.Equal(list, fewest(l)) || len(list) == 0 {
			t.Errorf("%s: Wrong: %v", name, list)
		}
	}
}

// P7.5: plans that come before others of as few pulses, and ones at the limits.
func TestSet(t *testing.T) {
	both := api.SlaveLine{Ring: 12, Starts: []api.SlaveStart{{Shown: 3, Last: 0}, {Shown: 3, Last: 1}}}
	for i, x := range []struct {
		l      api.SlaveLine
		minute int
		want   api.SlavePlan
	}{
		{alone(12, 10, 1), 10, planned(-1, 0, 0, 0)}, {alone(12, 10, 1), 11, planned(-1, 0, 0, 1)}, {alone(12, 10, 0), 11, planned(-1, 0, 1, 1)}, {alone(12, 10, 1), 0, planned(-1, 0, 0, 2)}, {alone(12, 0, 0), 11, planned(-1, 0, 1, 11)}, {alone(12, 11, 0), 10, planned(-1, 0, 1, 11)}, {alone(2, 1, 0), 0, planned(-1, 0, 1, 1)}, {alone(60, 0, 1), 59, planned(-1, 0, 0, 59)}, {alone(60, 1, 1), 0, planned(-1, 0, 0, 59)},
		{both, 3, planned(-1, 0, 0, 0)}, {both, 4, planned(-1, 1, 0, 0)}, {both, 0, planned(-1, 9, 0, 0)}, {both, 2, planned(0, 9, 1, 2)}, {two(), 1, planned(-1, 3, 1, 2)}, {two(), 0, planned(-1, 3, 1, 1)},
		{given(), 5, planned(-1, 10, 1, 6)}, {given(), 11, planned(-1, 10, 1, 12)}, {given(home(11, 0)), 0, planned(-1, 0, 0, 0)}, {given(home(11, 0)), 4, planned(0, 11, 1, 4)}, {given(look(0, 1)), 1, planned(-1, 0, 0, 0)},
	} {
		if list := bestPlans(x.l.Ring, allOf(x.l), x.minute); list[0] != x.want {
			t.Errorf("Set %d: the model takes %v", i, list)
		}
		if p, e := slave.Set(x.l, x.minute); p != x.want || e != api.OK {
			t.Errorf("Set %d: %v, %d instead of %v", i, p, e, x.want)
		}
	}
	for i, x := range []struct {
		l      api.SlaveLine
		minute int
		p      api.SlavePlan
		want   bool
	}{
		{given(), 5, planned(1, 10, 0, 5), true}, {given(), 5, planned(0, 11, 1, 5), true}, {given(), 5, planned(0, 11, 0, 5), false}, {given(), 5, planned(0, 11, 0, 6), true}, {given(), 5, planned(-1, 11, 0, 5), false}, {given(), 5, planned(0, 9, 1, 5), false}, {given(), 5, planned(1, 9, 0, 5), false}, {given(), 5, planned(0, 60, 1, 5), true}, {given(), 5, planned(0, 60, 1, 53), true}, {given(), 0, planned(1, 60, 0, 60), true}, {given(), 0, planned(1, 60, 1, 60), false}, {given(), 11, planned(1, 60, 1, 60), true},
		{alone(12, 10, 1), 10, planned(-1, 0, 1, 1), true}, {alone(12, 10, 1), 10, planned(1, 0, 1, 1), true}, {alone(12, 10, 1), 11, planned(0, 0, 0, 1), true}, {alone(12, 10, 1), 0, planned(0, 0, 1, 1), true}, {alone(12, 10, 1), 0, planned(0, 1, 1, 0), true}, {alone(12, 10, 1), 1, planned(0, 1, 1, 1), true}, {alone(12, 10, 1), 10, planned(-1, 1, 1, 0), false}, {alone(12, 10, 1), 11, planned(-1, 1, 1, 0), true}, {alone(12, 10, 1), 11, planned(-1, 1, 1, 1), true}, {alone(60, 0, 0), 0, planned(-1, 60, 0, 0), true}, {alone(60, 0, 0), 0, planned(-1, 0, 1, 60), true}, {alone(60, 0, 0), 59, planned(-1, 0, 0, 60), true},
		{two(), 1, planned(-1, 0, 0, 0), false}, {two(), 3, planned(-1, 0, 0, 0), false}, {two(), 0, planned(-1, 4, 0, 0), true}, {two(), 0, planned(-1, 3, 0, 0), false}, {two(), 2, planned(-1, 4, 0, 2), false}, {both, 4, planned(1, 0, 0, 1), false}, {both, 4, planned(0, 0, 1, 1), false}, {both, 4, planned(-1, 1, 1, 0), true}, {both, 4, planned(0, 9, 1, 4), true},
	} {
		if is, e := slave.Sets(x.l, x.minute, x.p); is != x.want || e != api.OK {
			t.Errorf("Sets %d: %v, %d", i, is, e)
		}
	}
}

// P7.6: home pulses for a ring, for the farthest slave clock, and for none.
func TestHomes(t *testing.T) {
	for i, x := range []struct {
		l    api.SlaveLine
		want [4]int
	}{
		{given(), [4]int{11, 12, 13, 14}}, {given(look(0, 0)), [4]int{}}, {given(look(0, 2)), [4]int{10, 11, 12, 13}}, {two(), [4]int{4, 5, 6, 7}}, {alone(60, 1, 0), [4]int{59, 60, 61, 62}}, {alone(60, 59, 0), [4]int{1, 2, 3, 4}}, {alone(60, 0, 0), [4]int{}}, {alone(60, 0, 0, send(1, 1, 1)), [4]int{59, 60, 61, 62}}, {alone(9, 8, 1, home(1, 1)), [4]int{1, 2, 3, 4}}, {fullLine(), [4]int{59, 60, 61, 62}}, {two(home(4, 0)), [4]int{}}, {two(home(2, 0)), [4]int{2, 3, 4, 5}},
	} {
		for lost, want := range x.want {
			if n, e := slave.Homes(x.l, lost); n != want || e != api.OK {
				t.Errorf("Homes %d, if %d can be lost: %d, %d", i, lost, n, e)
			}
		}
	}
}

// checkModel compares what is told of a slave clock with its model.
func checkModel(t *testing.T, where int, l api.SlaveLine, who int, m model) {
	t.Helper()
	if !m.canBe() {
		checkErrors(t, "a slave clock that cannot be", api.ErrSlaveFalse, byClock(l, who))
		return
	}
	if list, e := slave.Can(l, who); !slices.Equal(list, m.minutes()) || e != api.OK {
		t.Errorf("line %d: Can of %d: %v, %d instead of %v", where, who, list, e, m.minutes())
	}
	if s, e := slave.Lost(l, who); s != m.span() || e != api.OK {
		t.Errorf("line %d: Lost of %d: %v, %d instead of %v", where, who, s, e, m.span())
	}
	checkStory(t, where, l, who)
}

// checkSetting compares by which pulses a line is set with its model.
func checkSetting(t *testing.T, where int, l api.SlaveLine, states []hands, minute int) {
	t.Helper()
	if len(states) == 0 {
		checkErrors(t, "a line that cannot be", api.ErrSlaveFalse, byMinute(l, minute), homesAsked(l, minute%4))
		return
	}
	best := bestPlans(l.Ring, states, minute)
	if p, e := slave.Set(l, minute); p != best[0] || e != api.OK {
		t.Errorf("line %d: Set to %d: %v, %d instead of %v", where, minute, p, e, best)
	}
	for _, p := range best {
		if is, e := slave.Sets(l, minute, p); !is || e != api.OK {
			t.Errorf("line %d: Sets to %d: %v: %v, %d", where, minute, p, is, e)
		}
	}
	for lost := range 4 {
		if n, e := slave.Homes(l, lost); n != homesOf(l.Ring, states, lost) || e != api.OK {
			t.Errorf("line %d: Homes, if %d can be lost: %d, %d", where, lost, n, e)
		}
	}
	for pulses := minute; pulses < 120; pulses += 7 {
		list := plansOf(pulses)
		for i := pulses % 29; i < len(list); i += 29 {
			if is, e := slave.Sets(l, minute, list[i]); is != setsAll(l.Ring, states, minute, list[i]) || e != api.OK {
				t.Errorf("line %d: Sets to %d: %v: %v, %d", where, minute, list[i], is, e)
			}
		}
	}
}

// candidates are lists of lists of pulses, some of which are stories and some of which are not: any sets of the pulses, and some that are none.
func candidates(l api.SlaveLine) [][][]int {
	list := [][][]int{nil}
	for i, e := range l.Events {
		var longer [][][]int
		for _, story := range list {
			for _, lost := range sets(min(pulsesOf(e), 3) + 1) {
				longer = append(longer, append(story[:i:i], lost))
			}
		}
		list = longer
	}
	return list
}

// sameStory reports whether two stories are the same one.
func sameStory(a, b [][]int) bool {
	return slices.EqualFunc(a, b, func(x, y []int) bool { return slices.Equal(x, y) })
}

// P7.2 to P7.6: of small lines all lists of lost pulses are looked at.
func TestSmallLines(t *testing.T) {
	lies, asked := 0, 0
	for i, l := range small(220) {
		for who := range l.Starts {
			stories, m := listed(l, who)
			checkModel(t, i, l, who, m)
			for _, story := range stories {
				if !isStory(t, l, who, story) {
					t.Errorf("line %d: %v is a story of %d", i, story, who)
				}
			}
			if len(stories) > 400 {
				continue
			}
			for k, story := range candidates(l) {
				if k > 2000 {
					break
				}
				asked++
				if is := slices.ContainsFunc(stories, func(x [][]int) bool { return sameStory(x, story) }); isStory(t, l, who, story) != is {
					t.Errorf("line %d: IsStory of %d: %v: %v", i, who, story, !is)
				}
			}
		}
		checkSetting(t, i, l, allOf(l), i%l.Ring)
		list := wrong(t, l)
		if want := fewest(l); !slices.Equal(list, want) {
			t.Errorf("line %d: Wrong: %v instead of %v", i, list, want)
		}
		lies += min(len(list), 1)
	}
	if lies < 30 || asked < 10000 {
		t.Errorf("%d lines that cannot be, and %d lists of lost pulses: too few to tell something", lies, asked)
	}
}

// P7.2 to P7.6: drawn lines of all sizes are compared with the model.
func TestManyLines(t *testing.T) {
	lies, wide := 0, 0
	for i, l := range drawn(180) {
		for who := range l.Starts {
			m := marked(l, who)
			checkModel(t, i, l, who, m)
			if len(m.states) > 6 {
				wide++
			}
		}
		list := wrong(t, l)
		if want := fewest(l); !slices.Equal(list, want) {
			t.Errorf("line %d: Wrong: %v instead of %v", i, list, want)
		}
		lies += min(len(list), 1)
	}
	if lies < 40 || wide < 40 {
		t.Errorf("%d lines that cannot be, and %d slave clocks of which much can be: too few to tell something", lies, wide)
	}
}

// P7.5, P7.6: drawn lines of all sizes are set.
func TestSetManyLines(t *testing.T) {
	ties := [3]int{} // how often the first plan is taken for its Pre, for its Home, and for its First
	for i, l := range drawn(120) {
		states := allOf(l)
		checkSetting(t, i, l, states, i*7%l.Ring)
		if len(states) == 0 {
			continue
		}
		if list := bestPlans(l.Ring, states, i*7%l.Ring); len(list) > 1 {
			first, next := list[0], list[1]
			ties[slices.Index([]bool{first.Pre < next.Pre, first.Home < next.Home, first.First < next.First}, true)]++
		}
	}
	if slices.Min(ties[:]) == 0 {
		t.Errorf("plans of as many pulses are taken for %v: too few to tell something", ties)
	}
}

// P1, P7.2, P7.4: the greatest lines end soon.
func TestGreatLines(t *testing.T) {
	for i, l := range []api.SlaveLine{fullLine(), lookedAt(0), lookedAt(7), with(without(fullLine(), []int{7, 8, 9}), look(0, 31), look(0, 4), look(3, 2))} {
		for who := range l.Starts {
			checkModel(t, i, l, who, marked(l, who))
		}
		checkSetting(t, i, l, allOf(l), 59)
		if list := wrong(t, l); !slices.Equal(list, fewest(l)) {
			t.Errorf("line %d: Wrong: %v", i, list)
		}
	}
}
