package caller

import "remontoir/api"

// call is one of an hour, and how it is served.
type call struct {
	api.CallerCall
	api.CallerServed
}

// givenUp returns a call that is given up.
func givenUp(c api.CallerCall) call {
	return call{c, api.CallerServed{Joined: -1, Left: c.At + c.Wait, Channel: -1}}
}

func (c call) isJoined() bool { return c != givenUp(c.CallerCall) }

// isOn reports whether a call that is joined is so at a time.
func (c call) isOn(time int) bool { return c.Joined <= time && time < c.Left }

// seconds returns for how long a call is joined.
func (c call) seconds() int { return c.Left - c.Joined }

// choice tells which one of two calls is the better one.
type choice struct {
	isBetter func(one, other call) bool
}

// sooner is the choice of callers: to be joined, and sooner.
func sooner() choice {
	return choice{func(one, other call) bool {
		return one.isJoined() && (!other.isJoined() || one.Joined < other.Joined)
	}}
}

// gaining returns the calls that are better then than before.
func (c choice) gaining(before, then []call) []int {
	var list []int
	for i, x := range then {
		if c.isBetter(x, before[i]) {
			list = append(list, i)
		}
	}
	return list[:len(list):len(list)]
}
