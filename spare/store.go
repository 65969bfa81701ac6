package spare

import "remontoir/api"

// The numbers of a store that have bounds.
const (
	boundHours = iota
	boundGap
	boundFrom
	boundWarm
	boundLife
	boundDrift
)

// bounds are from what to what each of these numbers is.
var bounds = [...]api.Span{
	boundHours: {Low: 1, High: api.SpareHours},
	boundGap:   {Low: 0, High: api.SpareGap},
	boundFrom:  {Low: -api.SpareHours, High: api.SpareHours},
	boundWarm:  {Low: 0, High: api.SpareHours},
	boundLife:  {Low: 0, High: api.SpareHours},
	boundDrift: {Low: 0, High: api.SpareDrift},
}

func isLife(n int) bool { return isIn(n, bounds[boundLife]) }

func isMachine(m api.SpareMachine) bool {
	return isIn(m.From, bounds[boundFrom]) && isIn(m.Warm, bounds[boundWarm]) && isIn(m.Drift, bounds[boundDrift]) &&
		isLife(m.Life.Low) && isLife(m.Life.High) && m.Life.Low <= m.Life.High
}

// store is a valid store.
type store struct{ api.SpareStore }

// newStore returns a store in the calculation, or ErrSpare.
func newStore(s api.SpareStore) (store, api.Errno) {
	if !isIn(s.Hours, bounds[boundHours]) || !isIn(s.Gap, bounds[boundGap]) ||
		len(s.Machines) == 0 || !areAll(s.Machines, api.SpareMachines, isMachine) {
		return store{}, api.ErrSpare
	}
	return store{s}, api.OK
}

func (s store) isNumber(number int) bool {
	return isIn(number, api.Span{Low: 0, High: len(s.Machines) - 1})
}

func (s store) machine(number int) machine { return machine{s.Machines[number], s.Gap} }

// machine is one of a store, with the gap that it must not pass.
type machine struct {
	api.SpareMachine
	gap int
}

// ready returns the first hour in which the machine can be in step.
func (m machine) ready() int { return m.From + m.Warm }

// last returns how many hours the machine surely runs from the hour on in which it gets in step.
func (m machine) last() int { return max(0, m.Life.Low-m.Warm) }

// stint returns the same, but no more hours than it can go on until another one takes over.
func (m machine) stint() int {
	if m.Drift == 0 {
		return m.last()
	}
	return least(m.last(), m.gap/m.Drift)
}

// The two ways in which a machine lasts: another one takes over from it, or none does.
const (
	asStint = iota
	asLast
	ways
)

// lasting tells for how many hours a machine lasts in each way.
func lasting() [ways]func(machine) int {
	return [...]func(machine) int{asStint: machine.stint, asLast: machine.last}
}
