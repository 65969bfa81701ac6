package scale

import "remontoir/api"

// rule is a valid rule.
type rule struct{ api.ScaleRule }

// newRule returns a rule in the calculation, or ErrScale.
func newRule(r api.ScaleRule) (rule, api.Errno) {
	if !within(r.Fast, 0, api.ScaleAdjust) || !within(r.Slow, 0, api.ScaleAdjust) ||
		!within(r.Jerk, 1, api.ScaleAdjust) || !isSpan(r.Drift, api.ScaleDrift) {
		return rule{}, api.ErrScale
	}
	return rule{r}, api.OK
}

// keeps reports whether adjustments are at most so many, and keep the rule.
func (r rule) keeps(list []int, most int) bool {
	if len(list) > most {
		return false
	}
	before := 0
	for _, adjust := range list {
		if !within(adjust, -r.Slow, r.Fast) || !within(adjust-before, -r.Jerk, r.Jerk) {
			return false
		}
		before = adjust
	}
	return true
}

// endsSmoothly reports whether a list is empty, or its last adjustment differs from 0 so little that it keeps the rule alone.
func (r rule) endsSmoothly(list []int) bool {
	last := list[max(len(list)-1, 0):len(list):len(list)]
	return r.keeps(last, 1)
}

// isPlan reports whether adjustments are a plan for an offset.
func (r rule) isPlan(off int, plan []int) bool {
	return r.keeps(plan, api.ScalePlan) && r.endsSmoothly(plan) && sum(plan...) == -off
}

// part is a part of a rule: one of the two directions in which the scale is steered, or none.
type part int

const (
	slow part = iota
	still
	fast
)

// against returns the direction in which an offset is brought to 0.
func against(off int) part {
	switch {
	case off > 0:
		return slow
	case off < 0:
		return fast
	}
	return still
}

// direction is the sign of what is added in a direction, and how much a tick can add there, at most.
type direction struct {
	sign int
	most func(rule) int
}

// directions are the two in which the scale is steered, and, between them, that in which it is not.
func directions() [3]direction {
	return [...]direction{
		slow:  {-1, rule.slowest},
		still: {0, rule.unsteered},
		fast:  {1, rule.fastest},
	}
}

func (r rule) slowest() int { return r.Slow }

func (r rule) unsteered() int { return 0 }

func (r rule) fastest() int { return r.Fast }
