package slave_test

import (
	"math"
	"math/rand"
	"reflect"
	"slices"
	"testing"

	"remontoir/api"
	"remontoir/slave"
)

// P7.8: whatever was lost, the minute that a slave clock shows is told, and as many pulses as were lost lie between what is told.
func TestWhatTheyShow(t *testing.T) {
	for i, x := range samples(250) {
		for who, story := range x.stories {
			if !isStory(t, x.l, who, story) {
				t.Errorf("line %d: %v happened to %d, but is no story", i, story, who)
			}
			if list := can(t, x.l, who); !slices.Contains(list, x.ends[who].shown) {
				t.Errorf("line %d: %d shows %d, which is not in %v", i, who, x.ends[who].shown, list)
			}
			if s := good[api.Span](t, "Lost")(slave.Lost(x.l, who)); many(story) < s.Low || many(story) > s.High {
				t.Errorf("line %d: %d lost %d, which is not in %v", i, who, many(story), s)
			}
			checkStory(t, i, x.l, who)
		}
		if list := wrong(t, x.l); len(list) != 0 {
			t.Errorf("line %d: %v are wrong, but all looks were right", i, list)
		}
	}
}

// P7.8: each minute that is told is so in a story, and no other one is: a look that tells it can be right.
func TestEachMinute(t *testing.T) {
	for i, l := range drawn(120) {
		who := i % len(l.Starts)
		list := can(t, l, who)
		if len(list) == 0 || len(l.Events) == api.SlaveEvents {
			continue
		}
		for minute := range l.Ring {
			looked := with(l, look(who, minute))
			if after := can(t, looked, who); !slices.Equal(after, list[:0]) && !slices.Equal(after, []int{minute}) || len(after) > 0 != slices.Contains(list, minute) {
				t.Errorf("line %d: %v, and behind a look at %d: %v", i, list, minute, after)
			}
			if story, e := slave.Story(looked, who); e == api.OK && !isStory(t, l, who, story[:len(l.Events)]) {
				t.Errorf("line %d: %v for %d is no story", i, story, minute)
			}
		}
	}
}

// P7.9: a slave clock that loses nothing shows as many minutes more as there were pulses, if all signs alternate.
func TestNothingLost(t *testing.T) {
	r := rand.New(rand.NewSource(74))
	for range 200 {
		ring := 2 + r.Intn(59)
		l := alone(ring, r.Intn(ring), r.Intn(2))
		l.Starts = append(l.Starts, api.SlaveStart{})
		pulses, sign := 0, 1-l.Starts[0].Last
		for range r.Intn(10) {
			count := r.Intn(61)
			l.Events = append(l.Events, send(sign, count, 0))
			pulses, sign = pulses+count, (sign+count)%2
		}
		l.Events = append(l.Events, look(1, r.Intn(ring)))
		want := (l.Starts[0].Shown + pulses) % ring
		if list := can(t, l, 0); !slices.Equal(list, []int{want}) {
			t.Errorf("%v: %v instead of %d", l, list, want)
		}
		if s := good[api.Span](t, "Lost")(slave.Lost(l, 0)); s != to(0, 0) {
			t.Errorf("%v: %v lost", l, s)
		}
	}
}

// isAmong reports whether all of some numbers are among others.
func isAmong(some, others []int) bool {
	return !slices.ContainsFunc(some, func(n int) bool { return !slices.Contains(others, n) })
}

// P7.9: a look more never adds a minute.
func TestLookMore(t *testing.T) {
	r := rand.New(rand.NewSource(75))
	fewer := 0
	for i, l := range drawn(300) {
		if len(l.Events) == api.SlaveEvents {
			continue
		}
		looked := put(l, r.Intn(len(l.Events)+1), look(r.Intn(len(l.Starts)), r.Intn(l.Ring)))
		for who := range l.Starts {
			before, after := can(t, l, who), can(t, looked, who)
			if !isAmong(after, before) {
				t.Errorf("line %d: %v, and with a look more: %v", i, before, after)
			}
			fewer += len(before) - len(after)
		}
	}
	if fewer < 100 {
		t.Errorf("only %d minutes fewer", fewer)
	}
}

// looser are lines in each of which a pulse more can be lost: one of those of an event, one that is sent behind them, and one by itself.
func looser(r *rand.Rand, l api.SlaveLine) []api.SlaveLine {
	var list []api.SlaveLine
	for i, e := range l.Events {
		if e.Kind == api.SlaveLook || e.Lost == api.SlaveLost {
			continue
		}
		e.Lost++
		more := copied(l)
		more.Events[i] = e
		list = append(list, more)
		if e.Count < api.SlaveCount {
			e.Count++
			longer := copied(l)
			longer.Events[i] = e
			list = append(list, longer)
		}
	}
	if len(l.Events) < api.SlaveEvents {
		i := r.Intn(len(l.Events) + 1)
		list = append(list, put(l, i, send(r.Intn(2), 1, 1)), put(l, i, home(1, 1)))
	}
	return list
}

// P7.9: a pulse more that can be lost never takes a minute away.
func TestPulseMore(t *testing.T) {
	r := rand.New(rand.NewSource(76))
	added := 0
	for i, l := range drawn(80) {
		for k, loose := range looser(r, l) {
			for who := range l.Starts {
				before, after := can(t, l, who), can(t, loose, who)
				if !isAmong(before, after) {
					t.Errorf("line %d: %v, and as %d: %v", i, before, k, after)
				}
				added += len(after) - len(before)
			}
		}
	}
	if added < 100 {
		t.Errorf("only %d minutes more", added)
	}
}

// P7.10: a single pulse that is lost in the midst of others costs two minutes, and the last one a single one.
func TestOneLost(t *testing.T) {
	for _, ring := range []int{3, 12, 60} {
		for _, count := range []int{1, 2, 3, 10, 59, 60} {
			for pulse := range count {
				cost := 2
				if pulse == count-1 {
					cost = 1
				}
				l := alone(ring, ring-1, 1, send(0, count, 1))
				shown := (ring - 1 + count + ring - cost) % ring
				if !isStory(t, with(l, look(0, shown)), 0, [][]int{{pulse}, nil}) || isStory(t, with(l, look(0, (shown+1)%ring)), 0, [][]int{{pulse}, nil}) {
					t.Errorf("%d of %d pulses is lost, ring %d: it does not show %d", pulse, count, ring, shown)
				}
				if list := can(t, with(l, send(count%2, 20, 0)), 0); !slices.Contains(list, (ring-1+count+20+ring-2)%ring) || len(list) != 2 {
					t.Errorf("one of %d pulses is lost, and 20 come behind, ring %d: %v", count, ring, list)
				}
			}
		}
	}
}

// P7.11: without the looks that are told all can be as their events say; without fewer, or ones before them, they cannot.
func TestLooksThatMustBeWrong(t *testing.T) {
	areAll := func(l api.SlaveLine) bool {
		for who := range l.Starts {
			if len(can(t, l, who)) == 0 {
				return false
			}
		}
		return true
	}
	lies := 0
	for i, l := range drawn(150) {
		list, numbers := wrong(t, l), looks(l)
		if left := without(l, list); !areAll(left) || len(wrong(t, left)) != 0 || !isAmong(list, numbers) || !slices.IsSorted(list) {
			t.Errorf("line %d: it cannot be without %v", i, list)
		}
		lies += len(list)
		for _, set := range sets(min(len(numbers), 6)) {
			var fewer []int
			for _, k := range set {
				fewer = append(fewer, numbers[k])
			}
			if len(fewer) > len(list) || len(fewer) == len(list) && slices.Compare(fewer, list) >= 0 {
				break
			}
			if areAll(without(l, fewer)) {
				t.Errorf("line %d: without %v instead of %v it can be", i, fewer, list)
			}
		}
	}
	if lies < 60 {
		t.Errorf("only %d wrong looks", lies)
	}
}

// P7.12: a plan that is told sets all slave clocks, whatever they lost; with fewer pulses none does; and there always is one.
func TestFewestPulses(t *testing.T) {
	r := rand.New(rand.NewSource(77))
	for i, x := range samples(90) {
		minute := r.Intn(x.l.Ring)
		p := good[api.SlavePlan](t, "Set")(slave.Set(x.l, minute))
		for who, h := range x.ends {
			if shown := h.sent(x.l.Ring, p).shown; shown != minute {
				t.Errorf("line %d: behind %v %d shows %d instead of %d", i, p, who, shown, minute)
			}
		}
		if pulsesIn(p) > 1+x.l.Ring+minute || !good[bool](t, "Sets")(slave.Sets(x.l, minute, p)) {
			t.Errorf("line %d: %v to %d", i, p, minute)
		}
		for first := range 2 {
			if !good[bool](t, "Sets")(slave.Sets(x.l, minute, planned(1-first, x.l.Ring, first, minute))) {
				t.Errorf("line %d: a pulse, a whole ring and %d pulses do not set it", i, minute)
			}
		}
		for range 60 {
			list := plansOf(max(0, pulsesIn(p)-1-r.Intn(3)))
			if q := list[r.Intn(len(list))]; pulsesIn(q) < pulsesIn(p) && good[bool](t, "Sets")(slave.Sets(x.l, minute, q)) {
				t.Errorf("line %d: %v sets it to %d with fewer pulses than %v", i, q, minute, p)
			}
		}
	}
}

// P7.6: behind home pulses that are told all slave clocks show 0, if they are sent; with one fewer they do not surely.
func TestHomesThatAreSent(t *testing.T) {
	for i, x := range samples(120) {
		for lost := range 4 {
			n := good[int](t, "Homes")(slave.Homes(x.l, lost))
			if n > x.l.Ring-1+lost || n > 0 && n <= lost {
				t.Errorf("line %d: %d home pulses of which %d can be lost", i, n, lost)
			}
			if len(x.l.Events) == api.SlaveEvents || n > api.SlaveCount {
				continue
			}
			atZero := func(n int) bool {
				for who := range x.l.Starts {
					if !slices.Equal(can(t, with(x.l, home(n, lost)), who), []int{0}) {
						return false
					}
				}
				return true
			}
			if !atZero(n) || n > 0 && atZero(n-1) {
				t.Errorf("line %d: %d home pulses of which %d can be lost", i, n, lost)
			}
		}
	}
}

// callAll calls all functions.
func callAll(l api.SlaveLine, who, minute int, story [][]int, p api.SlavePlan) {
	slave.Check(l)
	byClock(l, who)
	slave.IsStory(l, who, story)
	slave.Wrong(l)
	byMinute(l, minute)
	slave.Sets(l, minute, p)
	slave.Homes(l, minute)
}

// roomy is a line whose lists have room behind them, in which something lies.
func roomy(l api.SlaveLine) api.SlaveLine {
	l = with(l, look(0, 3), send(1, 2, 3))
	l.Starts = append(l.Starts, api.SlaveStart{Shown: 1, Last: 1}, api.SlaveStart{Shown: 2})
	l.Starts, l.Events = l.Starts[:len(l.Starts)-2], l.Events[:len(l.Events)-2]
	return l
}

// whole is a line with all that lies behind its lists.
func whole(l api.SlaveLine) api.SlaveLine {
	l.Starts, l.Events = l.Starts[:cap(l.Starts)], l.Events[:cap(l.Events)]
	return copied(l)
}

// P7.7: arguments are not changed, nor is what lies behind their lists.
func TestArgumentsAreOnlyRead(t *testing.T) {
	for i, l := range []api.SlaveLine{roomy(given()), roomy(odd()), roomy(two(look(1, 0), home(2, 1))), roomy(given(look(0, 7)))} {
		before := whole(l)
		lost := []int{1, 2, 3}
		story := [][]int{lost[:1], {}, {4}}
		for who := -1; who < 3; who++ {
			callAll(l, who, who+1, story[:len(l.Events)%3], planned(who, 3, 1, 4))
		}
		if !reflect.DeepEqual(whole(l), before) {
			t.Errorf("line %d has changed: %v instead of %v", i, whole(l), before)
		}
		if !sameStory(story, [][]int{{1}, {}, {4}}) || !slices.Equal(lost, []int{1, 2, 3}) {
			t.Errorf("line %d: a story has changed: %v, %v", i, story, lost)
		}
	}
}

// lists are all lists that are told of a line.
func lists(t *testing.T, l api.SlaveLine) [][]int {
	t.Helper()
	all := [][]int{wrong(t, l)}
	for who := range l.Starts {
		story, _ := slave.Story(l, who)
		all = append(append(all, can(t, l, who)), story...)
	}
	return all
}

// P7.7: results are new memory: no two of them share any, not behind their lists either, and none is kept.
func TestResultsAreNew(t *testing.T) {
	lost := alone(60, 0, 0, send(1, 60, 3), send(0, 60, 3), look(0, 48), look(0, 48), look(0, 47))
	for _, l := range []api.SlaveLine{given(look(0, 0)), two(look(1, 0), look(0, 2), look(0, 1)), lost, without(lost, []int{4}), fullLine(), alone(9, 1, 1, home(9, 3), look(0, 7), home(9, 3), look(0, 0))} {
		first, second := lists(t, l), lists(t, l)
		for i, list := range first {
			whole := list[:cap(list)]
			for k := range whole {
				whole[k] = -7
			}
			if !sameStory(first[i+1:], second[i+1:]) {
				t.Fatalf("the list %d shares memory with a later one", i)
			}
		}
		if third := lists(t, l); !sameStory(second, third) {
			t.Errorf("a result was kept: %v instead of %v", third, second)
		}
		story, _ := slave.Story(l, 0)
		clear(story[:cap(story)])
		if again, _ := slave.Story(l, 0); len(again) > 0 && !isStory(t, l, 0, again) {
			t.Errorf("a story was kept: %v", again)
		}
	}
}

// P7.7: arguments are not retained: when they change, what was told stays.
func TestArgumentsAreNotKept(t *testing.T) {
	l := given(look(0, 0), look(0, 1), home(3, 2))
	told, before := lists(t, l), lists(t, l)
	clear(l.Starts)
	clear(l.Events)
	if !sameStory(told, before) {
		t.Errorf("a result has changed with an argument: %v", told)
	}
}

// R3: between a nil list and an empty one there is no difference.
func TestNilAndEmpty(t *testing.T) {
	l := alone(12, 4, 1)
	empty := l
	empty.Events = []api.SlaveEvent{}
	if slave.Check(empty) != api.OK || !sameStory(lists(t, l), lists(t, empty)) || !reflect.DeepEqual(byMinute(l, 3), byMinute(empty, 3)) || !isStory(t, empty, 0, nil) || !isStory(t, l, 0, [][]int{}) {
		t.Error("an empty list is not like none")
	}
	l.Starts, empty.Starts = nil, []api.SlaveStart{}
	if slave.Check(l) != api.ErrSlave || slave.Check(empty) != api.ErrSlave {
		t.Error("a line without slave clocks is valid")
	}
}

// P1: no function panics, whatever it gets.
func TestAnyArguments(t *testing.T) {
	list := slices.Concat(drawn(12), small(6), []api.SlaveLine{given(), two(), odd(), lookedAt(7)})
	for _, lines := range []map[string]api.SlaveLine{wrongLines(), falseLines()} {
		for _, l := range lines {
			list = append(list, l)
		}
	}
	all := []int{math.MinInt, math.MinInt + 1, -61, -2, -1, 0, 1, 2, 3, 4, 5, 10, 12, 59, 60, 61, math.MaxInt - 1, math.MaxInt}
	for i, n := range all {
		m := all[(i+7)%len(all)]
		e := api.SlaveEvent{Kind: n, First: m, Count: n, Lost: m, Who: n, Shown: m}
		list = append(list, alone(n, m, 0), alone(60, n, m), alone(n, n, n, e), given(e), given(send(n, m, 1)), given(send(0, n, m)), given(home(m, n)), given(look(n, m)), given(look(0, n)), api.SlaveLine{Ring: 60, Starts: slices.Repeat([]api.SlaveStart{{Shown: n, Last: m}}, 30), Events: slices.Repeat([]api.SlaveEvent{e}, 30)})
	}
	for _, l := range list {
		for i, n := range all {
			m := all[(i+4)%len(all)]
			callAll(l, i%3, n, [][]int{{n, m}, {m}}, planned(n, m, n, m))
			callAll(l, n, m, slices.Repeat([][]int{{n}}, len(l.Events)), planned(-1, n, 0, m))
		}
	}
}

// P2: the same arguments have the same result, whatever was called before.
func TestSameResults(t *testing.T) {
	lines := drawn(60)
	var first [][]asked
	ask := func(l api.SlaveLine) []asked {
		return slices.Concat(byClock(l, len(l.Starts)-1), byMinute(l, l.Ring-1), homesAsked(l, 2), wrongAsked(l))
	}
	for _, l := range lines {
		first = append(first, ask(l))
	}
	for i := len(lines) - 1; i >= 0; i-- {
		if now := ask(lines[i]); !reflect.DeepEqual(now, first[i]) {
			t.Errorf("line %d: %v, and then %v", i, first[i], now)
		}
	}
}
