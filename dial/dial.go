// Package dial is layer 1: see shared/doc/01-dial.md. It counts ticks by calendars with decrees, tells their readings, and tells what clocks show in towns.
package dial

import "remontoir/api"

// Check checks a calendar.
func Check(c api.DialCalendar) api.Errno {
	_, e := newCalendar(c)
	return e
}

// Length returns how many ticks a day has.
func Length(c api.DialCalendar, day int) (int, api.Errno) {
	x, e := newCalendar(c)
	if e != api.OK {
		return 0, e
	}
	if !x.isDay(day) {
		return 0, api.ErrDialAsk
	}
	return x.length(day), api.OK
}

// Total returns how many ticks there are.
func Total(c api.DialCalendar) (int, api.Errno) {
	x, e := newCalendar(c)
	if e != api.OK {
		return 0, e
	}
	return x.total(), api.OK
}

// Reading returns the reading of a tick.
func Reading(c api.DialCalendar, tick int) (api.DialReading, api.Errno) {
	x, e := newCalendar(c)
	if e != api.OK {
		return api.DialReading{}, e
	}
	if !x.hasReading(tick) {
		return api.DialReading{}, api.ErrDialAsk
	}
	return x.reading(tick), api.OK
}

// Tick returns the tick of a reading.
func Tick(c api.DialCalendar, r api.DialReading) (int, api.Errno) {
	x, e := newCalendar(c)
	if e != api.OK {
		return 0, e
	}
	tick, ok := x.tick(r)
	if !ok {
		return 0, api.ErrNone
	}
	return tick, api.OK
}

// Apart returns how many ticks one reading is after another one.
func Apart(c api.DialCalendar, a, b api.DialReading) (int, api.Errno) {
	first, e := Tick(c, a)
	if e != api.OK {
		return 0, e
	}
	second, e := Tick(c, b)
	if e != api.OK {
		return 0, e
	}
	return second - first, api.OK
}

// Next returns the first tick, from a tick on, whose second can be divided by a number.
func Next(c api.DialCalendar, tick, each int) (int, api.Errno) {
	x, e := newCalendar(c)
	if e != api.OK {
		return 0, e
	}
	if !x.hasReading(tick) || !within(each, 1, mostEach) {
		return 0, api.ErrDialAsk
	}
	next, ok := x.next(tick, each)
	if !ok {
		return 0, api.ErrNone
	}
	return next, api.OK
}

// CheckTown checks a town.
func CheckTown(c api.DialCalendar, t api.DialTown) api.Errno {
	_, e := newTown(c, t)
	return e
}

// Local returns the local reading of a tick.
func Local(c api.DialCalendar, t api.DialTown, tick int) (api.DialReading, api.Errno) {
	x, e := newTown(c, t)
	if e != api.OK {
		return api.DialReading{}, e
	}
	if !x.hasReading(tick) {
		return api.DialReading{}, api.ErrDialAsk
	}
	return x.local(x.reading(tick), x.aheadAt(tick)), api.OK
}

// Ticks returns all ticks of a local reading.
func Ticks(c api.DialCalendar, t api.DialTown, r api.DialReading) ([]int, api.Errno) {
	x, e := newTown(c, t)
	if e != api.OK {
		return nil, e
	}
	return x.ticks(r), api.OK
}

// Twice returns how many ticks have a local reading that an earlier one has, too.
func Twice(c api.DialCalendar, t api.DialTown) (int, api.Errno) {
	x, e := newTown(c, t)
	if e != api.OK {
		return 0, e
	}
	return x.twice(), api.OK
}
