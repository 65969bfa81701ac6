package spare_test

import (
	"math"
	"math/rand"
	"reflect"
	"slices"
	"testing"

	"remontoir/api"
	"remontoir/spare"
)

// P8.7, P2: arguments are not changed, results share nothing, and the same arguments have the same result.
func TestMemory(t *testing.T) {
	for i, s := range slices.Concat([]api.SpareStore{given(20), given(16), given(6), full()}, drawn(40)) {
		before := copied(s)
		plan, e := spare.Plan(s)
		kept := slices.Clone(plan)
		need, _ := spare.Need(s)
		keptNeed := slices.Clone(need)
		lives := slices.Repeat([]int{3}, len(plan))
		hours, f := spare.Silent(s, plan, lives)
		if e == api.OK && (f != api.OK || !slices.Equal(plan, kept) || !slices.Equal(lives, slices.Repeat([]int{3}, len(plan)))) {
			t.Errorf("store %d: Silent changes something, or fails: %d", i, f)
		}
		isPlan(t, s, plan)
		again := slices.Clone(hours)
		for _, list := range [][]int{need[:cap(need)], hours[:cap(hours)], lives} {
			for k := range list {
				list[k] = -99
			}
		}
		if cap(plan) > 0 {
			copy(plan[:cap(plan)], slices.Repeat([]api.SpareTurn{turn(-9, -9, -9)}, cap(plan)))
		}
		if !reflect.DeepEqual(s, before) {
			t.Errorf("store %d: it is changed to %v", i, s)
		}
		told, _ := spare.Plan(s)
		toldNeed, _ := spare.Need(s)
		toldHours, _ := spare.Silent(s, kept, slices.Repeat([]int{3}, len(kept)))
		if !slices.Equal(told, kept) || !slices.Equal(toldNeed, keptNeed) || !slices.Equal(toldHours, again) {
			t.Errorf("store %d: another result: %v, %v, %v", i, told, toldNeed, toldHours)
		}
	}
}

// R3: between nil and empty lists there is no difference.
func TestEmpty(t *testing.T) {
	if a, b := spare.Check(store(1, 1)), spare.Check(api.SpareStore{Hours: 1, Gap: 1, Machines: []api.SpareMachine{}}); a != api.ErrSpare || b != a {
		t.Errorf("no machines: %d, %d", a, b)
	}
	for _, plan := range [][]api.SpareTurn{nil, {}} {
		for _, lives := range [][]int{nil, {}} {
			checkErrors(t, "no turns", api.ErrSpareAsk, aboutLives(given(1), plan, lives))
		}
		if isPlan(t, given(1), plan) {
			t.Error("no turns are a plan")
		}
	}
}

// P1: any arguments are answered, and soon.
func TestAnyArguments(t *testing.T) {
	sizes := []int{math.MinInt, math.MinInt + 1, -501, -1, 0, 1, 7, 8, 500, 501, 1000, math.MaxInt - 1, math.MaxInt}
	r := rand.New(rand.NewSource(85))
	size := func() int { return sizes[r.Intn(len(sizes))] }
	for range 20000 {
		s := [...]api.SpareStore{given(20), full(), store(size(), size(), machine(size(), size(), size(), size(), size()))}[r.Intn(3)]
		plan := []api.SpareTurn{turn(size(), size(), size()), turn(size(), size(), size())}[:r.Intn(3)]
		lives := []int{size(), size()}[:r.Intn(3)]
		valid := spare.Check(s) == api.OK
		is, e := spare.IsPlan(s, plan)
		list, f := spare.Silent(s, plan, lives)
		if (e == api.OK) != valid || is && !valid || (f == api.OK) != (is && len(lives) == len(plan) && !slices.ContainsFunc(lives, func(n int) bool { return n < 0 || n > 500 })) || f != api.OK && len(list) > 0 {
			t.Fatalf("%v, %v, %v: %v, %d; %v, %d", s, plan, lives, is, e, list, f)
		}
	}
	for _, s := range edges() {
		checkModel(t, len(s.Machines), s, ordered(s))
	}
}

// P8.8: whatever lives machines have within their bounds, no hour is silent; whatever they drift, two are no farther apart than the gap when one takes over.
func TestTheSpare(t *testing.T) {
	r := rand.New(rand.NewSource(86))
	turns := 0
	for i, s := range slices.Concat(small(200), drawn(200)) {
		plan, e := spare.Plan(s)
		if e != api.OK {
			continue
		}
		turns += len(plan) - 1
		for range 6 {
			checkTruth(t, r, i, s, plan)
		}
	}
	if turns < 150 {
		t.Errorf("machines take over only %d times", turns)
	}
}

// checkTruth lets the machines of a plan run and drift within their bounds.
func checkTruth(t *testing.T, r *rand.Rand, where int, s api.SpareStore, plan []api.SpareTurn) {
	t.Helper()
	var lives, drifts []int
	for _, x := range plan {
		m := s.Machines[x.Machine]
		lives = append(lives, m.Life.Low+r.Intn(m.Life.High-m.Life.Low+1)*r.Intn(2))
		drifts = append(drifts, m.Drift*(2*r.Intn(2)-1))
	}
	if list := good[[]int](t, "Silent")(spare.Silent(s, plan, lives)); len(list) > 0 {
		t.Errorf("store %d: %v is silent at %v", where, plan, list)
	}
	for i := 1; i < len(plan); i++ {
		ahead := func(k int) int {
			return drifts[k] * (plan[i].Over - plan[k].Start - s.Machines[plan[k].Machine].Warm)
		}
		if apart := ahead(i) - ahead(i-1); apart > s.Gap || apart < -s.Gap {
			t.Errorf("store %d: %v: %d apart at %d", where, plan, apart, plan[i].Over)
		}
	}
}

// P8.9: there is a plan for some hours just if they are within reach.
func TestReach(t *testing.T) {
	for i, s := range slices.Concat(small(40), drawn(40)) {
		far := reach(t, s)
		for _, hours := range []int{1, 2, far - 2, far - 1, far, far + 1, far + 2, 250, 499, 500} {
			if hours < 1 || hours > 500 {
				continue
			}
			asked := lasting(s, hours)
			if n := reach(t, asked); n != far {
				t.Errorf("store %d: Reach is %d, and for %d hours %d", i, far, hours, n)
			}
			want := api.OK
			if hours > far {
				want = api.ErrNone
			}
			if _, e := spare.Fewest(asked); e != want {
				t.Errorf("store %d: Fewest for %d of %d hours: %d", i, hours, far, e)
			}
		}
	}
}

// P8.9: no plan at all has fewer turns than are told.
func TestTheFewest(t *testing.T) {
	asked := 0
	for i, s := range small(900) {
		plans, _ := listed(s)
		for _, plan := range plans {
			if is := isPlan(t, s, plan); is && len(plan) < fewest(t, s) {
				t.Errorf("store %d: %v is shorter than %d turns", i, plan, fewest(t, s))
			} else if is {
				asked++
			}
		}
	}
	if asked < 2000 {
		t.Errorf("only %d plans", asked)
	}
}

// P8.10: a plan of one turn lasts as long as its machine as the last one; in a longer one no machine but the last speaks for longer than its stint.
func TestStints(t *testing.T) {
	alone, full := 0, 0
	for i, s := range slices.Concat(small(120), []api.SpareStore{given(20), given(16)}) {
		plans, _ := listed(s)
		for _, plan := range plans {
			for k := 1; k < len(plan); k++ {
				stint, _, e := spare.Lasts(s, plan[k-1].Machine)
				if spoken := plan[k].Over - plan[k-1].Over; e != api.OK || spoken > stint {
					t.Errorf("store %d: %v: %d speaks for %d hours, %d", i, plan, plan[k-1].Machine, spoken, e)
				} else if spoken == stint {
					full++
				}
			}
		}
		for k, x := range s.Machines {
			_, last, e := spare.Lasts(s, k)
			for hours := 1; hours <= last+1 && x.From+x.Warm <= 0; hours++ {
				alone++
				if e != api.OK || isPlan(t, lasting(s, hours), []api.SpareTurn{turn(k, -x.Warm, 0)}) != (hours <= last) {
					t.Errorf("store %d: %d by itself for %d hours of %d", i, k, hours, last)
				}
			}
		}
	}
	if alone < 400 || full < 400 {
		t.Errorf("%d plans of one turn, and %d full stints: too few to tell something", alone, full)
	}
}

// better are stores for which nothing can be harder: with a machine more, a longer life, a shorter time to warm up, an earlier start, less drift, or a greater gap.
func better(r *rand.Rand, s api.SpareStore) []api.SpareStore {
	var list []api.SpareStore
	k, by := r.Intn(len(s.Machines)), 1+r.Intn(9)
	for _, change := range []func(s *api.SpareStore, m *api.SpareMachine){
		func(s *api.SpareStore, m *api.SpareMachine) {
			*s = store(s.Hours, s.Gap, slices.Insert(slices.Clone(s.Machines), k, machine(-by, by/3, by*2, 99, by))...)
		},
		func(s *api.SpareStore, m *api.SpareMachine) {
			m.Life = to(min(500, m.Life.Low+by), min(500, m.Life.High+by))
		},
		func(s *api.SpareStore, m *api.SpareMachine) { m.Warm = max(0, m.Warm-by) },
		func(s *api.SpareStore, m *api.SpareMachine) { m.From = max(-500, m.From-by) },
		func(s *api.SpareStore, m *api.SpareMachine) { m.Drift = max(0, m.Drift-by) },
		func(s *api.SpareStore, m *api.SpareMachine) { s.Gap = min(1000, s.Gap+by) },
	} {
		x := copied(s)
		change(&x, &x.Machines[k])
		if len(x.Machines) <= api.SpareMachines {
			list = append(list, x)
		}
	}
	return list
}

// P8.11: with something better no more turns are needed, and the reach is no less; with fewer hours no more turns either.
func TestBetter(t *testing.T) {
	r := rand.New(rand.NewSource(87))
	farther, fewer := [6]int{}, 0
	for i, s := range slices.Concat(small(150), drawn(300)) {
		n, e := spare.Fewest(s)
		far := reach(t, s)
		list := better(r, s)
		for k, x := range list {
			if reach(t, x) < far {
				t.Errorf("store %d: Reach is %d, and with the change %d %d", i, far, k, reach(t, x))
			}
			farther[6-len(list)+k] += number(reach(t, x) > far)
			if m, f := spare.Fewest(x); e == api.OK && (f != api.OK || m > n) {
				t.Errorf("store %d: Fewest is %d, and with the change %d %d, %d", i, n, k, m, f)
			} else if e == api.OK {
				fewer += n - m
			}
		}
		for hours := 1; hours < s.Hours && e == api.OK; hours += 1 + s.Hours/20 {
			if m := fewest(t, lasting(s, hours)); m > n {
				t.Errorf("store %d: Fewest is %d, and for %d hours %d", i, n, hours, m)
			}
		}
	}
	if slices.Min(farther[:]) < 10 || fewer < 10 {
		t.Errorf("farther with %v, and %d turns fewer: too few to tell something", farther, fewer)
	}
}

// P8.12: without a machine that is needed there is no plan; without another one there is one.
func TestTheNeeded(t *testing.T) {
	var needed [2]int
	for i, s := range slices.Concat(small(150), drawn(300)) {
		list, e := spare.Need(s)
		if e != api.OK || len(s.Machines) == 1 {
			continue
		}
		for k := range s.Machines {
			is, want := slices.Contains(list, k), api.OK
			if is {
				want = api.ErrNone
			}
			needed[number(is)]++
			if _, e := spare.Plan(without(s, k)); e != want {
				t.Errorf("store %d: without %d: %d, but %v are needed", i, k, e, list)
			}
		}
	}
	if min(needed[0], needed[1]) < 100 {
		t.Errorf("%v machines: too few to tell something", needed)
	}
}

// P8.13: two plans that share nothing have together at least twice as many turns as the fewest, and no machine is needed then.
func TestTwoPlans(t *testing.T) {
	more, same := 0, 0
	for i, s := range slices.Concat(small(200), drawn(300)) {
		n, e := spare.Pair(s)
		if e != api.OK {
			continue
		}
		least := 2 * fewest(t, s)
		if n < least || n > len(s.Machines) || len(good[[]int](t, "Need")(spare.Need(s))) > 0 {
			t.Errorf("store %d: Pair is %d, and twice the fewest %d", i, n, least)
		}
		more += number(n > least)
		same += number(n == least)
	}
	if min(more, same) < 20 {
		t.Errorf("%d pairs of more turns, and %d of as many: too few to tell something", more, same)
	}
}
