package dial_test

import (
	"testing"

	"remontoir/api"
)

// The model: readings are listed one after the other, as the chapter defines them, and every answer is looked up in the list.

// at is a reading.
func at(day, hour, minute, second int) api.DialReading {
	return api.DialReading{Day: day, Hour: hour, Minute: minute, Second: second}
}

func plus(day int) api.DialDecree  { return api.DialDecree{Day: day, Plus: true} }
func minus(day int) api.DialDecree { return api.DialDecree{Day: day} }

// days is a calendar.
func days(hours, minutes, seconds, many int, decrees ...api.DialDecree) api.DialCalendar {
	return api.DialCalendar{Hours: hours, Minutes: minutes, Seconds: seconds, Days: many, Decrees: decrees}
}

// week is the calendar of the chapter's examples, with decrees.
func week(decrees ...api.DialDecree) api.DialCalendar { return days(3, 4, 10, 2, decrees...) }

// change and place are a change of a town, and a town.
func change(tick, ahead int) api.DialChange { return api.DialChange{Tick: tick, Ahead: ahead} }

func place(ahead int, changes ...api.DialChange) api.DialTown {
	return api.DialTown{Ahead: ahead, Changes: changes}
}

// calendars are small calendars of many shapes, and one with days as they are.
func calendars() []api.DialCalendar {
	return []api.DialCalendar{
		week(), week(plus(0)), week(minus(0)), week(plus(1)), week(minus(1)),
		week(plus(0), plus(1)), week(minus(0), plus(1)), week(plus(0), minus(1)), week(minus(0), minus(1)),
		days(1, 1, 2, 1), days(1, 1, 2, 1, plus(0)), days(1, 1, 2, 1, minus(0)),
		days(1, 1, 2, 4, minus(0), minus(2), minus(3)), days(2, 1, 3, 4, plus(1), minus(3)), days(1, 5, 4, 3, minus(1), plus(2)),
		days(2, 3, 5, 10, plus(0), minus(1), plus(2), minus(3), plus(4), minus(5), plus(6), minus(7), plus(8), minus(9)),
		days(2, 2, 60, 2, plus(0), minus(1)),
	}
}

// towns are towns of a calendar of so many ticks.
func towns(total int) []api.DialTown {
	list := []api.DialTown{place(0), place(7), place(-1), place(1440), place(-1440)}
	if total < 8 {
		return list
	}
	a, b, c := total/4, total/2, total-1
	return append(list,
		place(5, change(b, 3)), place(3, change(b, 5)), place(2, change(b, 2)), place(-3, change(1, -4)),
		place(0, change(a, -2), change(b, 0)), place(4, change(a, 3), change(b, 2), change(c, 1)),
		place(1, change(a, -1), change(a+1, -2), change(b, -2), change(b+1, 6), change(c, -9)),
		place(0, change(1, -1), change(2, 0), change(3, -1), change(a+1, 0), change(b, 1), change(c, 0)),
		place(1440, change(b, -1440)), place(-1440, change(a, 1440), change(b, 1439)))
}

// listed are all readings of a calendar, one for each tick.
func listed(c api.DialCalendar) []api.DialReading {
	done := map[int]int{}
	for _, d := range c.Decrees {
		done[d.Day] = -1
		if d.Plus {
			done[d.Day] = 1
		}
	}
	var list []api.DialReading
	for day := range c.Days {
		for hour := range c.Hours {
			for minute := range c.Minutes {
				seconds := c.Seconds
				if hour == c.Hours-1 && minute == c.Minutes-1 {
					seconds += done[day]
				}
				for second := range seconds {
					list = append(list, at(day, hour, minute, second))
				}
			}
		}
	}
	return list
}

// down divides, rounded down, without the language's own division of numbers below 0.
func down(n, by int) int {
	if n >= 0 {
		return n / by
	}
	return -((-n + by - 1) / by)
}

// locals are all local readings of a town, one for each tick.
func locals(c api.DialCalendar, t api.DialTown) []api.DialReading {
	var list []api.DialReading
	for tick, r := range listed(c) {
		ahead := t.Ahead
		for _, x := range t.Changes {
			if x.Tick <= tick {
				ahead = x.Ahead
			}
		}
		n := (r.Day*c.Hours+r.Hour)*c.Minutes + r.Minute + ahead
		hour := down(n, c.Minutes)
		day := down(hour, c.Hours)
		list = append(list, at(day, hour-day*c.Hours, n-hour*c.Minutes, r.Second))
	}
	return list
}

// later reports whether a reading is behind another one.
func later(a, b api.DialReading) bool {
	if a.Day != b.Day {
		return a.Day > b.Day
	}
	if a.Hour != b.Hour {
		return a.Hour > b.Hour
	}
	if a.Minute != b.Minute {
		return a.Minute > b.Minute
	}
	return a.Second > b.Second
}

// good returns a result that comes without an error.
func good[T any](t *testing.T, what string) func(T, api.Errno) T {
	t.Helper()
	return func(x T, e api.Errno) T {
		t.Helper()
		if e != api.OK {
			t.Fatalf("%s: error %d", what, e)
		}
		return x
	}
}
