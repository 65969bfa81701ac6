package spare_test

import (
	"math/bits"
	"math/rand"
	"slices"
	"testing"

	"remontoir/api"
	"remontoir/spare"
)

// The model: whether turns are a plan is looked up hour by hour, as the chapter tells it. Of small stores all plans are listed, turn by turn, with every Start and every Over; of others all orders of machines are tried, each of which takes over as late as it can. From the machines of all plans every answer is counted out.

func to(low, high int) api.Span { return api.Span{Low: low, High: high} }

func machine(from, warm, low, high, drift int) api.SpareMachine {
	return api.SpareMachine{From: from, Warm: warm, Life: to(low, high), Drift: drift}
}

func turn(machine, start, over int) api.SpareTurn {
	return api.SpareTurn{Machine: machine, Start: start, Over: over}
}

func store(hours, gap int, machines ...api.SpareMachine) api.SpareStore {
	return api.SpareStore{Hours: hours, Gap: gap, Machines: machines}
}

// given is the store of the chapter's examples, for some hours.
func given(hours int) api.SpareStore {
	return store(hours, 10, machine(-10, 2, 12, 20, 1), machine(5, 3, 9, 30, 0), machine(-4, 4, 10, 10, 3))
}

// givenPlan is the plan of the chapter's examples.
func givenPlan() []api.SpareTurn {
	return []api.SpareTurn{turn(0, -2, 0), turn(1, 7, 10), turn(2, 12, 16)}
}

// copied is a copy of a store that shares nothing with it.
func copied(s api.SpareStore) api.SpareStore {
	s.Machines = slices.Clone(s.Machines)
	return s
}

// lasting is a store for some hours.
func lasting(s api.SpareStore, hours int) api.SpareStore {
	s = copied(s)
	s.Hours = hours
	return s
}

// without is a store from which a machine is left out.
func without(s api.SpareStore, number int) api.SpareStore {
	s = copied(s)
	s.Machines = slices.Delete(s.Machines, number, number+1)
	return s
}

// surelyRuns reports whether the machine of a turn surely runs in an hour.
func surelyRuns(s api.SpareStore, t api.SpareTurn, hour int) bool {
	for i := range s.Machines[t.Machine].Life.Low {
		if t.Start+i == hour {
			return true
		}
	}
	return false
}

// off is by how much the machine of a turn can be off at an hour: each hour adds to it.
func off(s api.SpareStore, t api.SpareTurn, hour int) int {
	n := 0
	for h := t.Start + s.Machines[t.Machine].Warm; h < hour; h++ {
		n += s.Machines[t.Machine].Drift
	}
	return n
}

// speaker is the turn whose machine speaks in an hour.
func speaker(plan []api.SpareTurn, hour int) int {
	at := 0
	for i, t := range plan {
		if t.Over <= hour {
			at = i
		}
	}
	return at
}

// fits reports whether a turn of a plan for some hours is one, by itself and behind the one before it.
func fits(s api.SpareStore, hours int, plan []api.SpareTurn, i int) bool {
	t := plan[i]
	if t.Machine < 0 || t.Machine >= len(s.Machines) || t.Start < s.Machines[t.Machine].From || t.Over < t.Start || t.Over-t.Start < s.Machines[t.Machine].Warm || t.Over >= hours {
		return false
	}
	if i == 0 {
		return t.Over == 0
	}
	return !slices.ContainsFunc(plan[:i], func(x api.SpareTurn) bool { return x.Machine == t.Machine }) &&
		t.Over > plan[i-1].Over && off(s, plan[i-1], t.Over)+off(s, t, t.Over) <= s.Gap
}

// holds reports whether turns are a plan for some hours.
func holds(s api.SpareStore, hours int, plan []api.SpareTurn) bool {
	for i := range plan {
		if !fits(s, hours, plan, i) {
			return false
		}
	}
	for hour := range hours {
		if len(plan) == 0 || !surelyRuns(s, plan[speaker(plan, hour)], hour) {
			return false
		}
	}
	return true
}

// machines are those of turns, as bits.
func machines(plan []api.SpareTurn) uint {
	var all uint
	for _, t := range plan {
		all |= 1 << t.Machine
	}
	return all
}

// model is, for each number of hours, the machines of plans.
type model map[int][]uint

func (m model) add(hours int, some uint) {
	if !slices.Contains(m[hours], some) {
		m[hours] = append(m[hours], some)
	}
}

// reach is the greatest number of hours for which there is a plan.
func (m model) reach() int {
	far := 0
	for hours := range m {
		far = max(far, hours)
	}
	return far
}

func (m model) fewest(hours int) int {
	n := 99
	for _, some := range m[hours] {
		n = min(n, bits.OnesCount(some))
	}
	return n
}

// need are the machines that each plan has.
func (m model) need(hours int) []int {
	each := ^uint(0)
	for _, some := range m[hours] {
		each &= some
	}
	var list []int
	for i := range api.SpareMachines {
		if each>>i&1 == 1 {
			list = append(list, i)
		}
	}
	return list
}

// pair is the fewest turns that two plans with no machine in common have together; 0, if there are none.
func (m model) pair(hours int) int {
	n := 0
	for _, one := range m[hours] {
		for _, other := range m[hours] {
			if both := bits.OnesCount(one | other); one&other == 0 && (n == 0 || both < n) {
				n = both
			}
		}
	}
	return n
}

// listed are all plans of a small store, for any number of hours, and its model. Turns before the last one of a plan are a plan until it takes over.
func listed(s api.SpareStore) ([][]api.SpareTurn, model) {
	var plans [][]api.SpareTurn
	m := model{}
	var goOn func(plan []api.SpareTurn)
	goOn = func(plan []api.SpareTurn) {
		plans = append(plans, plan)
		for over := plan[len(plan)-1].Over + 1; holds(s, over, plan); over++ {
			m.add(over, machines(plan))
			goOver(s, plan, over, goOn)
		}
	}
	goOver(s, nil, 0, goOn)
	return plans, m
}

// goOver goes on with a plan by each turn that can take over at an hour.
func goOver(s api.SpareStore, plan []api.SpareTurn, over int, goOn func([]api.SpareTurn)) {
	for i, x := range s.Machines {
		for start := x.From; start <= over; start++ {
			if longer := append(plan[:len(plan):len(plan)], turn(i, start, over)); holds(s, over+1, longer) {
				goOn(longer)
			}
		}
	}
}

// hoursOf is for how many hours a machine lasts that takes over when it gets in step, if it must not be off by more than some gap.
func hoursOf(x api.SpareMachine, gap int) int {
	n, apart := 0, x.Drift
	for n+x.Warm < x.Life.Low && apart <= gap {
		n, apart = n+1, apart+x.Drift
	}
	return n
}

// ordered is the model of a store of which all orders of machines are tried.
func ordered(s api.SpareStore) model {
	far := map[uint]int{}
	var goOn func(some uint, over int)
	goOn = func(some uint, over int) {
		for i, x := range s.Machines {
			if some>>i&1 == 1 || x.From > over-x.Warm {
				continue
			}
			if hours := hoursOf(x, 1<<30); hours > 0 {
				far[some|1<<i] = max(far[some|1<<i], over+hours)
			}
			if hours := hoursOf(x, s.Gap); hours > 0 {
				goOn(some|1<<i, over+hours)
			}
		}
	}
	goOn(0, 0)
	m := model{}
	for some := range uint(1 << len(s.Machines)) {
		for hours := range far[some] {
			m[hours+1] = append(m[hours+1], some)
		}
	}
	return m
}

// small are stores of at most three machines, of which all plans can be listed.
func small(many int) []api.SpareStore {
	r := rand.New(rand.NewSource(81))
	var list []api.SpareStore
	for range many {
		s := api.SpareStore{Hours: 1 + r.Intn(9), Gap: r.Intn(8)}
		for range 1 + r.Intn(3) {
			low := r.Intn(7)
			s.Machines = append(s.Machines, machine(r.Intn(9)-6, r.Intn(3), low, low+r.Intn(3), r.Intn(5)))
		}
		list = append(list, s)
	}
	return list
}

// drawn are stores of all sizes, most of which go on for longer than any of their machines.
func drawn(many int) []api.SpareStore {
	r := rand.New(rand.NewSource(82))
	var list []api.SpareStore
	for i := range many {
		long := 4 + r.Intn(90)
		s := api.SpareStore{Hours: min(api.SpareHours, 1+r.Intn(3*long)), Gap: r.Intn(long * 6)}
		for range 1 + (i+r.Intn(3))%api.SpareMachines {
			low := long/4 + r.Intn(long)
			s.Machines = append(s.Machines, machine(r.Intn(4*long)-3*long, r.Intn(long/2), low, low+r.Intn(long), r.Intn(9)))
		}
		list = append(list, s)
	}
	return list
}

// full is as great as a store can be: all machines go on for as long as they can, and each can take over from each.
func full() api.SpareStore {
	return store(500, 1000, slices.Repeat([]api.SpareMachine{machine(-500, 0, 500, 500, 2)}, 8)...)
}

// good returns what a call tells, which must not be an error.
func good[T any](t *testing.T, name string) func(T, api.Errno) T {
	return func(told T, e api.Errno) T {
		t.Helper()
		if e != api.OK {
			t.Errorf("%s: %d", name, e)
		}
		return told
	}
}

func isPlan(t *testing.T, s api.SpareStore, plan []api.SpareTurn) bool {
	t.Helper()
	return good[bool](t, "IsPlan")(spare.IsPlan(s, plan))
}

func reach(t *testing.T, s api.SpareStore) int {
	t.Helper()
	return good[int](t, "Reach")(spare.Reach(s))
}

func fewest(t *testing.T, s api.SpareStore) int {
	t.Helper()
	return good[int](t, "Fewest")(spare.Fewest(s))
}
