package scale

import (
	"iter"
	"slices"
	"sort"

	"remontoir/api"
)

// key is a tick of a plan, counted from 1 on from the end of the plan that is nearer, and the part of the rule that bounds it.
type key struct {
	tick int
	part part
}

// known is how much a tick can add, at most.
type known map[key]int

// newKnown returns what is known of the ticks of all plans that keep a rule. Each can add by Jerk more than the one nearer to the end, as far as the part of the rule allows.
func newKnown(r rule) known {
	k := known{}
	for p, d := range directions() {
		var can func(tick int) int
		can = func(tick int) int {
			if tick == 0 {
				return 0
			}
			add := min(can(tick-1)+r.Jerk, d.most(r))
			k[key{tick, part(p)}] = add
			return add
		}
		can((api.ScalePlan + 1) / 2)
	}
	return k
}

// adds are how much each of so many ticks can add in a direction, at most. All of them together keep the rule, too, and end smoothly.
func (k known) adds(p part, ticks int) iter.Seq[int] {
	return func(yield func(int) bool) {
		for tick := range ticks {
			nearer := min(tick+1, ticks-tick)
			if !yield(k[key{nearer, p}]) {
				return
			}
		}
	}
}

// most returns how much so many ticks can add in a direction, at most.
func (k known) most(p part, ticks int) int {
	return sum(slices.Collect(k.adds(p, ticks))...)
}

// reach returns between what the sums of so many adjustments lie.
func (k known) reach(ticks int) api.Span {
	return api.Span{Low: -k.most(slow, ticks), High: k.most(fast, ticks)}
}

// course is how an offset is brought to 0: in which direction, and how far.
type course struct {
	known
	part part
	far  int
}

func (k known) course(off int) course { return course{k, against(off), max(off, -off)} }

// areEnough reports whether there is a plan of so many ticks. If there is, there is one of more ticks, too.
func (c course) areEnough(ticks int) bool { return c.most(c.part, ticks) >= c.far }

// fewest returns of how few ticks there is a plan, or ErrNone.
func (c course) fewest() (int, api.Errno) {
	ticks := sort.Search(api.ScalePlan+1, c.areEnough)
	if ticks > api.ScalePlan {
		return 0, api.ErrNone
	}
	return ticks, api.OK
}

// upTo are what so many ticks add if each adds as much as it can, but no more than a level.
func (c course) upTo(level, ticks int) []int {
	var list []int
	for add := range c.adds(c.part, ticks) {
		list = append(list, min(add, level))
	}
	return list[:len(list):len(list)]
}

// level returns the greatest level up to which so many ticks do not add too much.
func (c course) level(ticks int) int {
	return sort.Search(api.ScaleAdjust, func(level int) bool { return sum(c.upTo(level+1, ticks)...) > c.far })
}

// adjustments are those of a plan of so many ticks, if they are enough. All of them go up to a level, and the first ones of those that can be higher are so by 1, as many as are still needed. Because these stand side by side, no two that follow each other differ by more than they otherwise would, or by 1.
func (c course) adjustments(ticks int) iter.Seq[int] {
	level := c.level(ticks)
	low, high := c.upTo(level, ticks), c.upTo(level+1, ticks)
	return func(yield func(int) bool) {
		left := c.far - sum(low...)
		for tick := range ticks {
			more := min(high[tick]-low[tick], left)
			left -= more
			if !yield(directions()[c.part].sign * (low[tick] + more)) {
				return
			}
		}
	}
}

// plan returns a plan of the fewest ticks, or ErrNone.
func (c course) plan() ([]int, api.Errno) {
	ticks, e := c.fewest()
	if e != api.OK {
		return nil, e
	}
	var list []int
	for adjust := range c.adjustments(ticks) {
		list = append(list, adjust)
	}
	return list[:len(list):len(list)], api.OK
}
