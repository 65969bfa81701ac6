package beat

import "remontoir/api"

// clocks is a set of clocks.
type clocks [api.BeatClocks]bool

// has reports whether a clock is in the set; true time never is.
func (s clocks) has(clock int) bool { return clock != trueTime && s[clock] }

// list returns the clocks of the set, strictly increasing.
func (s clocks) list() []int {
	var list []int
	for clock, is := range s {
		if is {
			list = append(list, clock)
		}
	}
	return list[:len(list):len(list)]
}

// fewest returns the first of the smallest sets of so many clocks that will do, if one will.
func fewest(many int, willDo func(clocks) bool) (clocks, bool) {
	var set clocks
	var choose func(from, left int) bool
	choose = func(from, left int) bool {
		if left == 0 {
			return willDo(set)
		}
		for clock := from; clock < many; clock++ {
			set[clock] = true
			if choose(clock+1, left-1) {
				return true
			}
			set[clock] = false
		}
		return false
	}
	for size := range many + 1 {
		if choose(0, size) {
			return set, true
		}
	}
	return clocks{}, false
}

// canBeTrueWithout reports whether a cellar can be true without some clocks.
func (c cellar) canBeTrueWithout(left clocks) bool {
	c.without = left
	_, canBe := newWeb(c).farthest(at(trueTime, 0), ahead())
	return canBe
}
