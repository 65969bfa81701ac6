package dial

import (
	"iter"

	"remontoir/api"
)

// mostEach is the greatest number by which a second can be divided in a question.
const mostEach = 60

// deed is what is done at the end of a day.
type deed int

const (
	nothing deed = iota
	putIn        // a second is put in
	leftOut      // a second is left out
)

// deeds are what is done to each day.
type deeds [api.DialDays]deed

// calendar is a valid calendar, and what its decrees do to each day.
type calendar struct {
	api.DialCalendar
	done deeds
}

// newCalendar returns a calendar in the calculation, or ErrDial.
func newCalendar(c api.DialCalendar) (calendar, api.Errno) {
	x := calendar{DialCalendar: c}
	if !x.hasSizes() || !x.hasDecrees() {
		return calendar{}, api.ErrDial
	}
	for _, d := range c.Decrees {
		x.done[d.Day] = deedOf(d)
	}
	return x, api.OK
}

func deedOf(d api.DialDecree) deed {
	if d.Plus {
		return putIn
	}
	return leftOut
}

func (c calendar) hasSizes() bool {
	return within(c.Hours, 1, api.DialHours) && within(c.Minutes, 1, api.DialMinutes) &&
		within(c.Seconds, 2, api.DialSeconds) && within(c.Days, 1, api.DialDays)
}

func (c calendar) hasDecrees() bool {
	if len(c.Decrees) > api.DialDecrees {
		return false
	}
	var days []int
	for _, d := range c.Decrees {
		days = append(days, d.Day)
	}
	return increasing(-1, days, c.isDay)
}

func (c calendar) isDay(day int) bool { return within(day, 0, c.Days-1) }

// hasReading reports whether a number is a tick.
func (c calendar) hasReading(tick int) bool { return within(tick, 0, c.total()-1) }

// ending is how the last minute of a day ends: with the second that is looked at, if this one is there, and right before it otherwise.
type ending struct {
	second func(calendar) int
	there  bool
}

func endingOf(d deed) ending {
	switch d {
	case putIn:
		return ending{second: calendar.extraSecond, there: true}
	case leftOut:
		return ending{second: calendar.lastSecond}
	}
	return ending{second: calendar.extraSecond}
}

// extraSecond is the second that is there only if it is put in.
func (c calendar) extraSecond() int { return c.Seconds }

// lastSecond is the second that is there unless it is left out.
func (c calendar) lastSecond() int { return c.Seconds - 1 }

// lastMinute returns how many ticks the last minute of a day has.
func (c calendar) lastMinute(day int) int {
	end := endingOf(c.done[day])
	if end.there {
		return end.second(c) + 1
	}
	return end.second(c)
}

// minuteLength returns how many ticks the minute of a reading has.
func (c calendar) minuteLength(r api.DialReading) int {
	if r.Hour < c.Hours-1 || r.Minute < c.Minutes-1 {
		return c.Seconds
	}
	return c.lastMinute(r.Day)
}

func (c calendar) length(day int) int {
	return (c.minutesOfDay()-1)*c.Seconds + c.lastMinute(day)
}

// lengths returns how many ticks each day has.
func (c calendar) lengths() []int {
	list := make([]int, 0, c.Days)
	for day := range c.Days {
		list = append(list, c.length(day))
	}
	return list
}

func (c calendar) total() int { return sum(c.lengths()...) }

func (c calendar) minutesOfDay() int { return c.Hours * c.Minutes }

func (c calendar) minutesOfHour() int { return c.Minutes }

func (c calendar) minutesOfMinute() int { return 1 }

// part is a part of a reading: how many minutes one of it has, and the reading with so many of it.
type part struct {
	minutes func(calendar) int
	with    func(api.DialReading, int) api.DialReading
}

// parts are those into which a minute is divided, the greatest first.
func parts() [3]part {
	return [...]part{
		{calendar.minutesOfDay, func(r api.DialReading, n int) api.DialReading { r.Day = n; return r }},
		{calendar.minutesOfHour, func(r api.DialReading, n int) api.DialReading { r.Hour = n; return r }},
		{calendar.minutesOfMinute, func(r api.DialReading, n int) api.DialReading { r.Minute = n; return r }},
	}
}

// counted returns the minute of a reading, counted through.
func (c calendar) counted(r api.DialReading) int {
	return sum(r.Day*c.minutesOfDay(), r.Hour*c.minutesOfHour(), r.Minute)
}

// divided returns the reading of a minute that is counted through, and of a second.
func (c calendar) divided(minute, second int) api.DialReading {
	r := api.DialReading{Second: second}
	for _, p := range parts() {
		n := floor(minute, p.minutes(c))
		r = p.with(r, n)
		minute -= n * p.minutes(c)
	}
	return r
}

// isDivided reports whether the parts of a reading are as they come from dividing its minute. It is exact for all numbers: where the minute of great ones wraps around, dividing it never leads back to them.
func (c calendar) isDivided(r api.DialReading) bool {
	return c.divided(c.counted(r), r.Second) == r
}

// isReading reports whether a reading is one of the calendar.
func (c calendar) isReading(r api.DialReading) bool {
	return c.isDay(r.Day) && c.isDivided(r) && within(r.Second, 0, c.minuteLength(r)-1)
}

// reading returns the reading of a tick.
func (c calendar) reading(tick int) api.DialReading {
	day, rest := c.dayOf(tick)
	minute := min(rest/c.Seconds, c.minutesOfDay()-1) // a second that is put in is still one of the last minute
	return c.divided(day*c.minutesOfDay()+minute, rest-minute*c.Seconds)
}

// dayOf returns the day of a tick, and how many ticks of this day come before it.
func (c calendar) dayOf(tick int) (day, rest int) {
	if c.done == (deeds{}) { // all days are alike
		return tick / c.length(0), tick % c.length(0)
	}
	var from func(day, rest int) (int, int)
	from = func(day, rest int) (int, int) {
		if rest < c.length(day) {
			return day, rest
		}
		return from(day+1, rest-c.length(day))
	}
	return from(0, tick)
}

// tick returns the tick of a reading, if it is one of the calendar.
func (c calendar) tick(r api.DialReading) (int, bool) {
	if !c.isReading(r) {
		return 0, false
	}
	before := c.lengths()[:r.Day:r.Day]
	return sum(before...) + (r.Hour*c.Minutes+r.Minute)*c.Seconds + r.Second, true
}

// readings are the ticks from one on, before another one, with their readings.
func (c calendar) readings(from, until int) iter.Seq2[int, api.DialReading] {
	return func(yield func(int, api.DialReading) bool) {
		for tick := from; tick < until; tick++ {
			if !yield(tick, c.reading(tick)) {
				return
			}
		}
	}
}

// minutes are the minutes of the ticks from one on, before another one: the reading of the first of these ticks in each minute, and how many of them it has.
func (c calendar) minutes(from, until int) iter.Seq2[api.DialReading, int] {
	return func(yield func(api.DialReading, int) bool) {
		for tick := from; tick < until; {
			r := c.reading(tick)
			many := min(c.minuteLength(r)-r.Second, until-tick)
			if !yield(r, many) {
				return
			}
			tick += many
		}
	}
}

// next returns the first tick, from one on, whose second can be divided, if there is one.
func (c calendar) next(tick, each int) (int, bool) {
search:
	for at, r := range c.readings(tick, c.total()) {
		if r.Second%each != 0 {
			continue search
		}
		return at, true
	}
	return 0, false
}
