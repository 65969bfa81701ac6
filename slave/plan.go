package slave

import (
	"cmp"
	"iter"
	"slices"

	"remontoir/api"
)

// noPre is the Pre of a plan that does not begin with a pulse of one sign.
const noPre = -1

// plan is a plan, by which slave clocks are set.
type plan struct{ api.SlavePlan }

func (p plan) isValid() bool {
	return within(p.Pre, noPre, signs-1) && within(p.Home, 0, api.SlaveCount) && isSign(p.First) && within(p.Send, 0, api.SlaveCount)
}

// events are those by which a plan is sent.
func (p plan) events() [3]event {
	pre := newSend(0, 0)
	if p.Pre != noPre {
		pre = newSend(p.Pre, 1)
	}
	return [...]event{pre, newHome(p.Home), newSend(p.First, p.Send)}
}

// pulses returns how many pulses a plan has.
func (p plan) pulses() int {
	all := 0
	for _, e := range p.events() {
		all += e.Count
	}
	return all
}

// isBefore reports whether a plan has fewer pulses than another one, or as many and comes first.
func (p plan) isBefore(other plan) bool {
	return cmp.Or(cmp.Compare(p.pulses(), other.pulses()), cmp.Compare(p.Pre, other.Pre), cmp.Compare(p.Home, other.Home), cmp.Compare(p.First, other.First)) < 0
}

// plans are all plans.
func plans() iter.Seq[plan] {
	return func(yield func(plan) bool) {
		for pre := range signs + 1 {
			for home := range api.SlaveCount + 1 {
				for first := range signs {
					for send := range api.SlaveCount + 1 {
						if !yield(plan{api.SlavePlan{Pre: noPre + pre, Home: home, First: first, Send: send}}) {
							return
						}
					}
				}
			}
		}
	}
}

// setting is a line with all states in which its slave clocks can be behind all events.
type setting struct {
	line
	ends []state
}

// newSetting returns the setting of a line that is asked about rightly, or the first error.
func newSetting(l api.SlaveLine, isAsked func(line) bool) (setting, api.Errno) {
	x, e := newLine(l)
	if e != api.OK {
		return setting{}, e
	}
	if !isAsked(x) {
		return setting{}, api.ErrSlaveAsk
	}
	s := setting{line: x}
	for who := range x.Starts {
		can := clock{x, who}.can()
		if len(can) == 0 {
			return setting{}, api.ErrSlaveFalse
		}
		s.add(can)
	}
	return s, api.OK
}

// add adds states that are not there yet.
func (s *setting) add(ends []state) {
	for _, x := range ends {
		if !slices.Contains(s.ends, x) {
			s.ends = append(s.ends, x)
		}
	}
}

// homes returns the fewest home pulses after which all slave clocks surely show 0, if each can lose so many of them.
func (s setting) homes(lost int) int {
	var needed []int
	for _, x := range s.ends {
		if x.shown != 0 {
			needed = append(needed, s.Ring-x.shown+lost)
		}
	}
	return greatest(needed...)
}

// goal is a minute to which a line is set.
type goal struct {
	setting
	minute int
}

// sets reports whether a plan sets the line to the minute.
func (g goal) sets(p plan) bool {
	return !slices.ContainsFunc(g.ends, func(s state) bool {
		for _, e := range p.events() {
			s = g.after(e, s, nil)
		}
		return s.shown != g.minute
	})
}

// surely returns a plan that always sets the line: a pulse gives all slave clocks the same sign, home pulses bring them to 0, and each pulse behind pulls all of them.
func (g goal) surely() plan {
	return plan{api.SlavePlan{Pre: 0, Home: g.Ring - 1, First: 1, Send: g.minute}}
}

// search is what is asked of plans: whether one will do, and whether one is taken before another one.
type search struct {
	willDo func(plan) bool
	before func(p, other plan) bool
}

// first returns the plan that is taken before all others that will do; a plan is given that will.
func (s search) first(given plan) plan {
	best := given
	for p := range plans() {
		if s.before(p, best) && s.willDo(p) {
			best = p
		}
	}
	return best
}

// best returns the plan that sets the line with the fewest pulses.
func (g goal) best() plan {
	return search{willDo: g.sets, before: plan.isBefore}.first(g.surely())
}
