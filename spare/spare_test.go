package spare_test

import (
	"math"
	"math/rand"
	"slices"
	"testing"

	"remontoir/api"
	"remontoir/spare"
)

// changed is the store of the chapter with one change.
func changed(change func(s *api.SpareStore)) api.SpareStore {
	s := given(20)
	change(&s)
	return s
}

// numbers are some that are not from one number to another one.
func numbers(low, high int) map[string]int {
	return map[string]int{"one less": low - 1, "one more": high + 1, "all": math.MaxInt, "the least": math.MinInt, "far behind": 1 << 32, "far below": -1 << 32}
}

// wrongStores are stores that are not valid, each by one thing.
func wrongStores() map[string]api.SpareStore {
	list := map[string]api.SpareStore{
		"none":             {},
		"no machines":      {Hours: 5, Gap: 3},
		"no machines left": changed(func(s *api.SpareStore) { s.Machines = s.Machines[:0] }),
		"9 machines":       changed(func(s *api.SpareStore) { s.Machines = make([]api.SpareMachine, 9) }),
		"no span":          changed(func(s *api.SpareStore) { s.Machines[1].Life = to(10, 9) }),
		"no span at 500":   changed(func(s *api.SpareStore) { s.Machines[2].Life = to(500, 0) }),
	}
	put := func(name string, change func(s *api.SpareStore)) { list[name] = changed(change) }
	for name, no := range numbers(1, 500) {
		put("hours: "+name, func(s *api.SpareStore) { s.Hours = no })
	}
	for name, no := range numbers(0, 1000) {
		put("gap: "+name, func(s *api.SpareStore) { s.Gap = no })
	}
	for name, no := range numbers(-500, 500) {
		put("from first: "+name, func(s *api.SpareStore) { s.Machines[0].From = no })
		put("from last: "+name, func(s *api.SpareStore) { s.Machines[2].From = no })
	}
	for name, no := range numbers(0, 500) {
		put("warm: "+name, func(s *api.SpareStore) { s.Machines[1].Warm = no })
		put("life: "+name, func(s *api.SpareStore) { s.Machines[0].Life = to(no, no) })
		put("from a life on: "+name, func(s *api.SpareStore) { s.Machines[2].Life.Low = no })
		put("to a life: "+name, func(s *api.SpareStore) { s.Machines[2].Life.High = no })
	}
	for name, no := range numbers(0, 100) {
		put("drift: "+name, func(s *api.SpareStore) { s.Machines[2].Drift = no })
	}
	return list
}

// edges are valid stores at the limits.
func edges() []api.SpareStore {
	return []api.SpareStore{
		store(1, 0, machine(0, 0, 0, 0, 0)), store(500, 1000, machine(500, 500, 500, 500, 100)), store(500, 1000, machine(-500, 500, 0, 500, 100)), store(1, 1000, machine(-500, 0, 500, 500, 0)),
		store(500, 0, slices.Repeat([]api.SpareMachine{machine(-500, 499, 500, 500, 0)}, 8)...), given(20), given(1), given(500), full(),
	}
}

// asked is what one of the functions tells: its numbers, one after the other.
type asked struct {
	name string
	told []int
	e    api.Errno
}

func number(is bool) int {
	if is {
		return 1
	}
	return 0
}

// aboutMachine is the call with a machine.
func aboutMachine(s api.SpareStore, number int) []asked {
	stint, last, e := spare.Lasts(s, number)
	return []asked{{"Lasts", []int{stint, last}, e}}
}

// aboutPlan are the calls that fail if there is no plan. Of a plan, of which any will do, only is told how many turns it has.
func aboutPlan(s api.SpareStore) []asked {
	n, e1 := spare.Fewest(s)
	plan, e2 := spare.Plan(s)
	list, e3 := spare.Need(s)
	return []asked{{"Fewest", []int{n}, e1}, {"Plan", []int{len(plan)}, e2}, {"Need", append(list, len(list)), e3}}
}

// aboutPair is the call that fails if there are no two plans.
func aboutPair(s api.SpareStore) []asked {
	n, e := spare.Pair(s)
	return []asked{{"Pair", []int{n}, e}}
}

// aboutAny are the calls that fail for wrong stores alone.
func aboutAny(s api.SpareStore, plan []api.SpareTurn) []asked {
	n, e1 := spare.Reach(s)
	is, e2 := spare.IsPlan(s, plan)
	return []asked{{"Reach", []int{n}, e1}, {"IsPlan", []int{number(is)}, e2}}
}

// aboutLives is the call with lives.
func aboutLives(s api.SpareStore, plan []api.SpareTurn, lives []int) []asked {
	list, e := spare.Silent(s, plan, lives)
	return []asked{{"Silent", append(list, len(list)), e}}
}

// checkErrors asks for an error of all calls, and for zero values with it.
func checkErrors(t *testing.T, where string, e api.Errno, calls ...[]asked) {
	t.Helper()
	for _, a := range slices.Concat(calls...) {
		if a.e != e || slices.ContainsFunc(a.told, func(n int) bool { return n != 0 }) {
			t.Errorf("%s: %s: %v, %d instead of %d", where, a.name, a.told, a.e, e)
		}
	}
}

// P8.1: which stores are valid.
func TestCheck(t *testing.T) {
	for name, s := range wrongStores() {
		if e := spare.Check(s); e != api.ErrSpare {
			t.Errorf("%s: %d", name, e)
		}
	}
	for i, s := range slices.Concat(edges(), small(50), drawn(50)) {
		if e := spare.Check(s); e != api.OK {
			t.Errorf("the valid store %d: %d", i, e)
		}
	}
}

// P8.1, P1: all functions return ErrSpare first, also where every other error applies, and zero values with it.
func TestWrongStoreFirst(t *testing.T) {
	for name, s := range wrongStores() {
		for _, no := range []int{-1, 0, 1, 3, 500} {
			checkErrors(t, name, api.ErrSpare, aboutMachine(s, no), aboutAny(s, []api.SpareTurn{turn(no, 0, 0)}))
		}
		checkErrors(t, name, api.ErrSpare, aboutPlan(s), aboutPair(s), aboutAny(s, givenPlan()), aboutLives(s, nil, nil), aboutLives(s, givenPlan(), []int{12, 9, 501}), aboutLives(s, givenPlan(), []int{12, 9, 10}))
	}
}

// P8.1: how long machines last, as a stint and as the last ones.
func TestLasts(t *testing.T) {
	for i, x := range []struct {
		gap         int
		m           api.SpareMachine
		stint, last int
	}{
		{10, machine(-10, 2, 12, 20, 1), 10, 10}, {9, machine(-10, 2, 12, 20, 1), 9, 10}, {11, machine(-10, 2, 12, 20, 1), 10, 10}, {10, machine(5, 3, 9, 30, 0), 6, 6}, {10, machine(-4, 4, 10, 10, 3), 3, 6}, {12, machine(-4, 4, 10, 10, 3), 4, 6}, {11, machine(-4, 4, 10, 10, 3), 3, 6},
		{0, machine(0, 0, 7, 7, 0), 7, 7}, {0, machine(0, 0, 7, 7, 1), 0, 7}, {99, machine(0, 0, 7, 7, 100), 0, 7}, {100, machine(0, 0, 7, 7, 100), 1, 7}, {1000, machine(0, 0, 500, 500, 100), 10, 500}, {1000, machine(0, 0, 500, 500, 2), 500, 500}, {1000, machine(0, 0, 500, 500, 3), 333, 500},
		{5, machine(0, 5, 5, 9, 1), 0, 0}, {5, machine(0, 5, 4, 9, 1), 0, 0}, {5, machine(0, 500, 0, 500, 0), 0, 0}, {5, machine(0, 5, 6, 6, 1), 1, 1}, {5, machine(500, 0, 6, 500, 1), 5, 6},
	} {
		for hours := range 3 { // whatever they are asked for, and wherever the machine is
			s := store(1+hours*200, x.gap, x.m)
			for range hours {
				s.Machines = append([]api.SpareMachine{machine(1, 1, 1, 1, 1)}, s.Machines...)
			}
			if stint, last, e := spare.Lasts(s, hours); stint != x.stint || last != x.last || e != api.OK {
				t.Errorf("Lasts %d: %d, %d, %d", i, stint, last, e)
			}
		}
	}
	for i, s := range slices.Concat(small(60), drawn(60), edges()) {
		for k, x := range s.Machines {
			if stint, last, e := spare.Lasts(s, k); stint != hoursOf(x, s.Gap) || last != hoursOf(x, 1<<30) || e != api.OK {
				t.Errorf("store %d: Lasts of %d: %d, %d, %d", i, k, stint, last, e)
			}
		}
		for name, no := range numbers(0, len(s.Machines)-1) {
			checkErrors(t, name, api.ErrSpareAsk, aboutMachine(s, no))
		}
	}
}

// twoPlan are two turns that are a plan of the chapter's store for 16 hours.
func twoPlan() []api.SpareTurn { return givenPlan()[:2] }

// P8.2: which turns are a plan, at all its bounds.
func TestIsPlan(t *testing.T) {
	drift := store(12, 7, machine(-9, 1, 9, 9, 2), machine(-9, 2, 12, 12, 1), machine(-9, 0, 4, 4, 0))
	for i, x := range []struct {
		s    api.SpareStore
		plan []api.SpareTurn
		want bool
	}{
		{given(20), givenPlan(), true}, {given(22), givenPlan(), true}, {given(23), givenPlan(), false}, {given(17), givenPlan(), true}, {given(16), givenPlan(), false}, {given(16), twoPlan(), true}, {given(17), twoPlan(), false}, {given(11), twoPlan(), true}, {given(10), twoPlan(), false}, {given(10), givenPlan()[:1], true}, {given(11), givenPlan()[:1], false}, {given(1), givenPlan()[:1], true}, {given(1), nil, false}, {given(1), []api.SpareTurn{}, false},
		// one that was started sooner ends sooner, and is off by more
		{given(9), []api.SpareTurn{turn(0, -3, 0)}, true}, {given(10), []api.SpareTurn{turn(0, -3, 0)}, false}, {given(2), []api.SpareTurn{turn(0, -10, 0)}, true}, {given(2), []api.SpareTurn{turn(0, -11, 0)}, false}, {given(3), []api.SpareTurn{turn(0, -10, 0)}, false}, {given(2), []api.SpareTurn{turn(0, -1, 0)}, false}, {given(2), []api.SpareTurn{turn(0, 0, 0)}, false},
		// hours at which it takes over
		{given(10), []api.SpareTurn{turn(0, -1, 1)}, false}, {given(10), []api.SpareTurn{turn(0, -3, -1)}, false}, {given(6), []api.SpareTurn{turn(0, -2, 0), turn(2, -4, 0)}, false}, {given(6), []api.SpareTurn{turn(0, -2, 0), turn(2, -3, 1)}, true}, {given(6), []api.SpareTurn{turn(2, -4, 0), turn(0, -2, 1)}, true}, {given(6), []api.SpareTurn{turn(2, -4, 0), turn(0, -2, 0)}, false}, {given(6), []api.SpareTurn{turn(2, -4, 0), turn(0, -3, -1)}, false}, {given(20), []api.SpareTurn{turn(0, -2, 0), turn(1, 7, 10), turn(2, 6, 10)}, false}, {given(20), []api.SpareTurn{turn(0, -2, 0), turn(1, 7, 10), turn(2, 5, 9)}, false}, {given(16), []api.SpareTurn{turn(0, -2, 0), turn(1, 7, 10), turn(2, 12, 16)}, false},
		// the machines
		{given(5), []api.SpareTurn{turn(0, -2, 0), turn(0, 1, 3)}, false}, {given(5), []api.SpareTurn{turn(0, -2, 0), turn(2, -1, 3), turn(0, 2, 4)}, false}, {given(5), []api.SpareTurn{turn(3, -2, 0)}, false}, {given(5), []api.SpareTurn{turn(-1, -2, 0)}, false}, {given(5), []api.SpareTurn{turn(0, -2, 0), turn(3, 0, 3)}, false},
		// both are together off by at most the gap
		{drift, []api.SpareTurn{turn(0, -1, 0), turn(1, 1, 3)}, true}, {drift, []api.SpareTurn{turn(0, -1, 0), turn(1, 0, 3)}, true}, {drift, []api.SpareTurn{turn(0, -1, 0), turn(1, -1, 3)}, false}, {drift, []api.SpareTurn{turn(0, -2, 0), turn(1, 0, 3)}, false}, {drift, []api.SpareTurn{turn(0, -1, 0), turn(1, 2, 4)}, false}, {drift, []api.SpareTurn{turn(1, -2, 0), turn(0, 4, 5)}, true}, {drift, []api.SpareTurn{turn(1, -2, 0), turn(0, 3, 5)}, true}, {drift, []api.SpareTurn{turn(1, -2, 0), turn(0, 2, 5)}, false},
		// a machine that is off by nothing takes over while the other one runs, and at once when it has ended
		{drift, []api.SpareTurn{turn(1, -2, 0), turn(2, 7, 7), turn(0, 9, 10)}, true}, {drift, []api.SpareTurn{turn(1, -2, 0), turn(2, 7, 8), turn(0, 9, 10)}, false}, {drift, []api.SpareTurn{turn(1, -2, 0), turn(2, 7, 7), turn(0, 10, 11)}, true}, {drift, []api.SpareTurn{turn(1, -2, 0), turn(2, 6, 7), turn(0, 10, 11)}, false}, {drift, []api.SpareTurn{turn(1, -2, 0), turn(2, 6, 7), turn(0, 9, 10)}, true},
		// numbers of all sizes
		{full(), []api.SpareTurn{turn(0, 0, 0)}, true}, {full(), []api.SpareTurn{turn(0, -1, 0)}, false}, {full(), []api.SpareTurn{turn(0, math.MinInt, 0)}, false}, {full(), []api.SpareTurn{turn(0, math.MaxInt, 0)}, false}, {full(), []api.SpareTurn{turn(0, math.MaxInt, math.MaxInt)}, false}, {full(), []api.SpareTurn{turn(0, math.MinInt, math.MinInt)}, false}, {full(), []api.SpareTurn{turn(math.MaxInt, 0, 0)}, false}, {full(), []api.SpareTurn{turn(math.MinInt, 0, 0)}, false}, {full(), []api.SpareTurn{turn(0, 0, 0), turn(1, 499, 499)}, true}, {full(), []api.SpareTurn{turn(0, 0, 0), turn(1, 499, 500)}, false}, {full(), []api.SpareTurn{turn(0, 0, 0), turn(1, math.MinInt, 499)}, false}, {full(), []api.SpareTurn{turn(0, 0, 0), turn(1, 0, math.MaxInt)}, false}, {full(), make([]api.SpareTurn, 1000), false},
	} {
		if holds(x.s, x.s.Hours, x.plan) != x.want {
			t.Errorf("IsPlan %d: the model says otherwise", i)
		}
		if is := isPlan(t, x.s, x.plan); is != x.want {
			t.Errorf("IsPlan %d: %v", i, is)
		}
	}
}

// P8.3 to P8.5: the chapter's examples, and stores at the edges.
func TestPlans(t *testing.T) {
	apart := func(hours int) api.SpareStore { // each one only when the one before it ends
		return store(hours, 0, machine(9, 0, 3, 3, 0), machine(-2, 2, 6, 6, 0), machine(3, 1, 6, 6, 9))
	}
	for i, x := range []struct {
		s      api.SpareStore
		fewest int
		need   []int
		pair   int
		reach  int
	}{
		{given(20), 3, []int{0, 1, 2}, 0, 22}, {given(22), 3, []int{0, 1, 2}, 0, 22}, {given(23), 0, nil, 0, 22}, {given(500), 0, nil, 0, 22}, {given(17), 3, []int{0, 1, 2}, 0, 22}, {given(16), 2, []int{0}, 0, 22}, {given(10), 1, []int{0}, 0, 22}, {given(7), 1, []int{0}, 0, 22}, {given(6), 1, nil, 2, 22}, {given(1), 1, nil, 2, 22},
		{full(), 1, nil, 2, 4000}, {store(1, 0, machine(0, 0, 0, 0, 0)), 0, nil, 0, 0}, {store(1, 0, machine(0, 0, 1, 1, 0)), 1, []int{0}, 0, 1}, {store(1, 0, machine(1, 0, 9, 9, 0)), 0, nil, 0, 0}, {store(1, 0, machine(-1, 2, 9, 9, 0)), 0, nil, 0, 0}, {store(7, 0, machine(-2, 2, 9, 9, 0)), 1, []int{0}, 0, 7}, {store(500, 0, machine(-500, 500, 500, 500, 0)), 0, nil, 0, 0}, {store(500, 0, machine(-500, 0, 500, 500, 100)), 1, []int{0}, 0, 500},
		{apart(4), 1, []int{1}, 0, 9}, {apart(9), 2, []int{1, 2}, 0, 9}, {apart(10), 0, nil, 0, 9}, {store(500, 0, slices.Repeat([]api.SpareMachine{machine(-500, 437, 500, 500, 0)}, 8)...), 8, []int{0, 1, 2, 3, 4, 5, 6, 7}, 0, 504}, {store(252, 0, slices.Repeat([]api.SpareMachine{machine(-500, 437, 500, 500, 0)}, 8)...), 4, nil, 8, 504}, {store(189, 0, slices.Repeat([]api.SpareMachine{machine(-500, 437, 500, 500, 0)}, 8)...), 3, nil, 6, 504}, {store(253, 0, slices.Repeat([]api.SpareMachine{machine(-500, 437, 500, 500, 0)}, 8)...), 5, nil, 0, 504},
		// what drifts goes last, even if it is the longest one
		{store(14, 5, machine(0, 0, 10, 10, 6), machine(0, 0, 4, 4, 1)), 2, []int{0, 1}, 0, 14}, {store(15, 5, machine(0, 0, 10, 10, 6), machine(0, 0, 4, 4, 1)), 0, nil, 0, 14}, {store(12, 5, machine(-9, 0, 10, 10, 6), machine(2, 0, 4, 4, 1)), 0, nil, 0, 10},
		// a longer way to wait for one that lasts
		{store(20, 0, machine(0, 0, 3, 3, 0), machine(1, 0, 3, 3, 0), machine(6, 0, 14, 14, 0), machine(0, 0, 2, 2, 0)), 3, []int{0, 1, 2}, 0, 22}, {store(19, 0, machine(0, 0, 3, 3, 0), machine(1, 0, 3, 3, 0), machine(5, 0, 14, 14, 0), machine(0, 0, 2, 2, 0)), 3, []int{2}, 0, 22},
		// the fewest for one are not among those for two
		{store(10, 0, machine(0, 0, 9, 9, 0), machine(0, 0, 1, 1, 0), machine(0, 0, 5, 5, 0), machine(0, 0, 5, 5, 0)), 2, nil, 4, 20}, {store(10, 0, machine(0, 0, 8, 8, 0), machine(0, 0, 7, 7, 0), machine(0, 0, 2, 2, 0), machine(0, 0, 2, 2, 0), machine(0, 0, 1, 1, 0)), 2, nil, 5, 20}, {store(9, 0, machine(0, 0, 9, 9, 0), machine(0, 0, 3, 3, 0), machine(0, 0, 3, 3, 0), machine(0, 0, 3, 3, 0)), 1, nil, 4, 18},
	} {
		if n := reach(t, x.s); n != x.reach {
			t.Errorf("Reach %d: %d", i, n)
		}
		checkPlans(t, i, x.s, x.fewest, x.need)
		checkPair(t, i, x.s, x.pair)
	}
}

// checkPlans compares what is told of plans: with 0 as the fewest turns there are none.
func checkPlans(t *testing.T, where int, s api.SpareStore, fewest int, need []int) {
	t.Helper()
	if fewest == 0 {
		checkErrors(t, "a store without a plan", api.ErrNone, aboutPlan(s))
		return
	}
	if n, e := spare.Fewest(s); n != fewest || e != api.OK {
		t.Errorf("store %d: Fewest for %d: %d, %d instead of %d", where, s.Hours, n, e, fewest)
	}
	if plan, e := spare.Plan(s); len(plan) != fewest || e != api.OK || !holds(s, s.Hours, plan) || !isPlan(t, s, plan) {
		t.Errorf("store %d: Plan for %d: %v, %d instead of %d turns", where, s.Hours, plan, e, fewest)
	}
	if list, e := spare.Need(s); !slices.Equal(list, need) || e != api.OK {
		t.Errorf("store %d: Need for %d: %v, %d instead of %v", where, s.Hours, list, e, need)
	}
}

// checkPair compares what is told of two plans: with 0 there are none.
func checkPair(t *testing.T, where int, s api.SpareStore, pair int) {
	t.Helper()
	if pair == 0 {
		checkErrors(t, "a store without two plans", api.ErrNone, aboutPair(s))
		return
	}
	if n, e := spare.Pair(s); n != pair || e != api.OK {
		t.Errorf("store %d: Pair for %d: %d, %d instead of %d", where, s.Hours, n, e, pair)
	}
}

// checkModel compares what is told of a store for some hours with its model.
func checkModel(t *testing.T, where int, s api.SpareStore, m model) {
	t.Helper()
	if n := reach(t, s); n != m.reach() {
		t.Errorf("store %d: Reach: %d instead of %d", where, n, m.reach())
	}
	if len(m[s.Hours]) == 0 {
		checkPlans(t, where, s, 0, nil)
	} else {
		checkPlans(t, where, s, m.fewest(s.Hours), m.need(s.Hours))
	}
	checkPair(t, where, s, m.pair(s.Hours))
}

// P8.3 to P8.5, P8.9: of small stores all plans are listed.
func TestSmallStores(t *testing.T) {
	longer, pairs, spared := 0, 0, 0
	for i, s := range small(400) {
		_, m := listed(s)
		for hours := 1; hours <= m.reach()+2; hours++ {
			checkModel(t, i, lasting(s, hours), m)
			longer += number(len(m[hours]) > 0 && m.fewest(hours) > 1)
			pairs += number(m.pair(hours) > 0)
			spared += number(len(m[hours]) > 0 && len(m.need(hours)) == 1)
		}
	}
	if longer < 200 || pairs < 200 || spared < 100 {
		t.Errorf("%d plans of several turns, %d pairs, and %d stores with one machine that is needed: too few to tell something", longer, pairs, spared)
	}
}

// P8.3 to P8.5: of drawn stores all orders of machines are tried.
func TestManyStores(t *testing.T) {
	longer, pairs := 0, 0
	for i, s := range drawn(160) {
		m := ordered(s)
		for _, hours := range []int{1, s.Hours, min(500, m.reach()+1), max(1, min(500, m.reach())), max(1, min(500, m.reach()/2)), max(1, min(500, m.reach()*2/3))} {
			checkModel(t, i, lasting(s, hours), m)
			longer += number(len(m[hours]) > 0 && m.fewest(hours) > 2)
			pairs += number(m.pair(hours) > 2)
		}
	}
	if longer < 60 || pairs < 60 {
		t.Errorf("%d plans of more than two turns, and %d pairs of more: too few to tell something", longer, pairs)
	}
}

// P8.3, P8.5: small stores tell that the order of machines is enough to look at.
func TestModels(t *testing.T) {
	for i, s := range small(150) {
		_, one := listed(s)
		other := ordered(s)
		for hours := 1; hours <= max(one.reach(), other.reach()); hours++ {
			if one.fewest(hours) != other.fewest(hours) || one.pair(hours) != other.pair(hours) || !slices.Equal(one.need(hours), other.need(hours)) {
				t.Errorf("store %d: the models differ for %d hours", i, hours)
			}
		}
	}
}

// others are turns that differ a little from some.
func others(r *rand.Rand, plan []api.SpareTurn) []api.SpareTurn {
	list := slices.Clone(plan)
	x := &list[r.Intn(len(list))]
	switch r.Intn(7) {
	case 0:
		x.Machine += r.Intn(3) - 1
	case 1, 2:
		x.Start += r.Intn(3) - 1
	case 3, 4:
		x.Over += r.Intn(3) - 1
	case 5:
		list = list[:len(list)-1]
	case 6:
		list = append(list, *x)
	}
	return list
}

// P8.2: turns of all kinds are looked up hour by hour.
func TestManyTurns(t *testing.T) {
	r := rand.New(rand.NewSource(83))
	var is [2]int
	for i, s := range small(300) {
		plans, _ := listed(s)
		for range min(len(plans), 60) {
			plan := plans[r.Intn(len(plans))]
			for range 12 {
				asked := lasting(s, max(1, plan[len(plan)-1].Over+r.Intn(4)))
				want := holds(asked, asked.Hours, plan)
				is[number(want)]++
				if isPlan(t, asked, plan) != want {
					t.Errorf("store %d: IsPlan for %d: %v: %v", i, asked.Hours, plan, !want)
				}
				if plan = others(r, plan); len(plan) == 0 {
					break
				}
			}
		}
	}
	if min(is[0], is[1]) < 2000 {
		t.Errorf("%v turns that are no plan, and that are one: too few to tell something", is)
	}
}

// P8.6: hours without an announcement, and lives at the limits.
func TestSilent(t *testing.T) {
	for i, x := range []struct {
		s     api.SpareStore
		plan  []api.SpareTurn
		lives []int
		want  []int
	}{
		{given(20), givenPlan(), []int{12, 9, 10}, nil}, {given(20), givenPlan(), []int{12, 8, 10}, []int{15}}, {given(20), givenPlan(), []int{12, 9, 8}, nil}, {given(20), givenPlan(), []int{12, 9, 7}, []int{19}}, {given(20), givenPlan(), []int{11, 7, 6}, []int{9, 14, 15, 18, 19}}, {given(20), givenPlan(), []int{500, 500, 500}, nil}, {given(20), givenPlan(), []int{0, 500, 500}, []int{0, 1, 2, 3, 4, 5, 6, 7, 8, 9}}, {given(20), givenPlan(), []int{2, 500, 500}, []int{0, 1, 2, 3, 4, 5, 6, 7, 8, 9}}, {given(20), givenPlan(), []int{3, 3, 4}, []int{1, 2, 3, 4, 5, 6, 7, 8, 9, 10, 11, 12, 13, 14, 15, 16, 17, 18, 19}}, {given(20), givenPlan(), []int{500, 0, 500}, []int{10, 11, 12, 13, 14, 15}}, {given(20), givenPlan(), []int{500, 500, 0}, []int{16, 17, 18, 19}},
		{given(22), givenPlan(), []int{12, 9, 9}, []int{21}}, {given(16), twoPlan(), []int{13, 8}, []int{15}}, {given(9), []api.SpareTurn{turn(0, -3, 0)}, []int{11}, []int{8}}, {given(9), []api.SpareTurn{turn(0, -3, 0)}, []int{12}, nil}, {given(1), []api.SpareTurn{turn(0, -10, 0)}, []int{10}, []int{0}}, {given(1), []api.SpareTurn{turn(0, -10, 0)}, []int{11}, nil},
	} {
		if list, e := spare.Silent(x.s, x.plan, x.lives); !slices.Equal(list, x.want) || e != api.OK {
			t.Errorf("Silent %d: %v, %d", i, list, e)
		}
	}
	checkLives(t)
}

// checkLives asks for lives, and plans, that are wrong.
func checkLives(t *testing.T) {
	t.Helper()
	for _, plan := range [][]api.SpareTurn{nil, {}, givenPlan()[:2], givenPlan()[1:], {turn(0, -2, 0), turn(1, 6, 10), turn(2, 12, 16)}, {turn(0, -2, 0), turn(1, 7, 10), turn(0, 14, 16)}, {turn(0, -2, 0), turn(1, 7, 10), turn(9, 12, 16)}} {
		for many := range 4 {
			checkErrors(t, "no plan", api.ErrSpareAsk, aboutLives(given(20), plan, []int{12, 9, 10}[:many]))
		}
	}
	for _, lives := range [][]int{nil, {}, {12}, {12, 9}, {12, 9, 10, 10}, make([]int, 1000)} {
		checkErrors(t, "not as many lives", api.ErrSpareAsk, aboutLives(given(20), givenPlan(), lives))
	}
	for name, no := range numbers(0, 500) {
		for i := range 3 {
			lives := []int{12, 9, 10}
			lives[i] = no
			checkErrors(t, name, api.ErrSpareAsk, aboutLives(given(20), givenPlan(), lives))
		}
	}
}

// P8.6: hours of all plans of small stores are looked at one by one.
func TestManySilent(t *testing.T) {
	r := rand.New(rand.NewSource(84))
	silent := 0
	for i, s := range small(150) {
		plans, _ := listed(s)
		for range min(len(plans), 50) {
			plan := plans[r.Intn(len(plans))]
			for asked := lasting(s, plan[len(plan)-1].Over+1); holds(asked, asked.Hours, plan); asked.Hours++ {
				lives, want := livesOf(r, plan), []int(nil)
				for hour := range asked.Hours {
					if k := speaker(plan, hour); hour-plan[k].Start+1 > lives[k] {
						want = append(want, hour)
					}
				}
				silent += len(want)
				if list, e := spare.Silent(asked, plan, lives); !slices.Equal(list, want) || e != api.OK {
					t.Errorf("store %d: Silent of %v with %v: %v, %d instead of %v", i, plan, lives, list, e, want)
				}
			}
		}
	}
	if silent < 1000 {
		t.Errorf("only %d silent hours", silent)
	}
}

// livesOf are some lives for turns, whatever lives the machines have.
func livesOf(r *rand.Rand, plan []api.SpareTurn) []int {
	var lives []int
	for range plan {
		lives = append(lives, r.Intn(9))
	}
	return lives
}
