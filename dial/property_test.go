package dial_test

import (
	"math"
	"slices"
	"testing"

	"remontoir/api"
	"remontoir/dial"
)

// all are the readings of all ticks, as Reading tells them.
func all(t *testing.T, c api.DialCalendar) []api.DialReading {
	t.Helper()
	var list []api.DialReading
	for tick := range good[int](t, "Total")(dial.Total(c)) {
		list = append(list, good[api.DialReading](t, "Reading")(dial.Reading(c, tick)))
	}
	return list
}

// shown are the local readings of all ticks, as Local tells them.
func shown(t *testing.T, c api.DialCalendar, town api.DialTown) []api.DialReading {
	t.Helper()
	var list []api.DialReading
	for tick := range good[int](t, "Total")(dial.Total(c)) {
		list = append(list, good[api.DialReading](t, "Local")(dial.Local(c, town, tick)))
	}
	return list
}

// copied is a copy of a calendar, and of a town, that shares nothing with it.
func copied(c api.DialCalendar, town api.DialTown) (api.DialCalendar, api.DialTown) {
	c.Decrees, town.Changes = slices.Clone(c.Decrees), slices.Clone(town.Changes)
	return c, town
}

func sameCalendar(a, b api.DialCalendar) bool {
	return slices.Equal(a.Decrees, b.Decrees) && a.Hours == b.Hours && a.Minutes == b.Minutes && a.Seconds == b.Seconds && a.Days == b.Days
}

func sameTown(a, b api.DialTown) bool {
	return slices.Equal(a.Changes, b.Changes) && a.Ahead == b.Ahead
}

// callAll calls all functions.
func callAll(c api.DialCalendar, town api.DialTown, a, b api.DialReading, n, each int) {
	dial.Check(c)
	dial.Length(c, n)
	dial.Total(c)
	dial.Reading(c, n)
	dial.Tick(c, a)
	dial.Apart(c, a, b)
	dial.Next(c, n, each)
	dial.CheckTown(c, town)
	dial.Local(c, town, n)
	dial.Ticks(c, town, a)
	dial.Twice(c, town)
}

// P1.6: arguments are not changed, what lies behind their lists neither, and a change of them later changes no result.
func TestArgumentsAreOnlyRead(t *testing.T) {
	c, town := week(plus(0)), place(5, change(60, 3), change(90, 2))
	c.Decrees = append(make([]api.DialDecree, 0, 8), c.Decrees...)
	town.Changes = append(make([]api.DialChange, 0, 8), town.Changes...)
	oldCalendar, oldTown := copied(c, town)
	oldCalendar.Decrees, oldTown.Changes = slices.Clone(c.Decrees[:8]), slices.Clone(town.Changes[:8])
	callAll(c, town, at(0, 2, 1, 0), at(1, 0, 0, 0), 70, 5)
	if !slices.Equal(c.Decrees[:8], oldCalendar.Decrees) || !slices.Equal(town.Changes[:8], oldTown.Changes) {
		t.Error("an argument has changed")
	}
	before := good[[]int](t, "Ticks")(dial.Ticks(c, town, at(0, 2, 1, 0)))
	want := slices.Clone(before)
	c.Decrees[0], town.Changes[0] = minus(1), change(61, -3)
	if n := good[int](t, "Total")(dial.Total(c)); n != 239 {
		t.Errorf("Total of the changed calendar: %d", n)
	}
	if !slices.Equal(before, want) {
		t.Errorf("a result has changed with the arguments: %v", before)
	}
}

// P1.6: results are new memory.
func TestResultsAreNew(t *testing.T) {
	c, town := week(plus(0)), place(5, change(60, 3))
	first := good[[]int](t, "Ticks")(dial.Ticks(c, town, at(0, 2, 1, 0)))
	second := good[[]int](t, "Ticks")(dial.Ticks(c, town, at(0, 2, 1, 0)))
	clear(first)
	first = append(first, 7)
	clear(first[:cap(first)])
	if !slices.Equal(second, []int{40, 60}) {
		t.Errorf("a result shares memory with another one: %v", second)
	}
	if third := good[[]int](t, "Ticks")(dial.Ticks(c, town, at(0, 2, 1, 0))); !slices.Equal(third, []int{40, 60}) {
		t.Errorf("a result has been kept: %v", third)
	}
}

// P1.7: each tick has one reading, each reading one tick; a later tick has a later reading; the Second is one more, or the Minute ends.
func TestTheTicks(t *testing.T) {
	for i, c := range calendars() {
		list := all(t, c)
		seen := map[api.DialReading]bool{}
		for tick, r := range list {
			if seen[r] {
				t.Errorf("calendar %d: %v comes twice", i, r)
			}
			seen[r] = true
			if n := good[int](t, "Tick")(dial.Tick(c, r)); n != tick {
				t.Errorf("calendar %d: the tick of %v is %d, not %d", i, r, n, tick)
			}
			if tick == 0 {
				continue
			}
			before := list[tick-1]
			next := before
			next.Second++
			minuteEnds := r.Second == 0 && at(r.Day, r.Hour, r.Minute, 0) != at(before.Day, before.Hour, before.Minute, 0)
			if !later(r, before) || r != next && !minuteEnds {
				t.Errorf("calendar %d: %v comes behind %v", i, r, before)
			}
		}
	}
}

// P1.8: a decree makes its day a tick longer, or shorter, and no other one; up to the day's last second nothing changes, and later days come a tick later, or sooner.
func TestTheDecree(t *testing.T) {
	for i, shape := range []api.DialCalendar{week(), days(1, 1, 2, 3), days(2, 3, 5, 4), days(1, 2, 60, 2)} {
		plain := all(t, shape)
		length := shape.Hours * shape.Minutes * shape.Seconds
		for day := range shape.Days {
			for _, d := range []api.DialDecree{plus(day), minus(day)} {
				c := shape
				c.Decrees = []api.DialDecree{d}
				longer := -1
				if d.Plus {
					longer = 1
				}
				list := all(t, c)
				end := (day + 1) * length // behind the day, without a decree
				if len(list) != len(plain)+longer || !slices.Equal(list[:end-1], plain[:end-1]) || !slices.Equal(list[end+longer:], plain[end:]) {
					t.Errorf("calendar %d with the decree %v: %v", i, d, list)
				}
				sum := 0
				for other := range c.Days {
					n := good[int](t, "Length")(dial.Length(c, other))
					sum += n
					if other == day && n != length+longer || other != day && n != length {
						t.Errorf("calendar %d with the decree %v: the day %d has %d ticks", i, d, other, n)
					}
				}
				if sum != len(list) {
					t.Errorf("calendar %d with the decree %v: the days have %d ticks together", i, d, sum)
				}
			}
		}
	}
}

// P1.9: what lies between readings adds up; turned round, it is less than 0 by as much.
func TestApartAddsUp(t *testing.T) {
	for i, c := range []api.DialCalendar{days(1, 2, 3, 2, plus(0)), days(2, 2, 2, 2, minus(0)), days(1, 1, 2, 4, minus(0), plus(1), minus(3))} {
		list := all(t, c)
		apart := func(a, b api.DialReading) int { return good[int](t, "Apart")(dial.Apart(c, a, b)) }
		for first, a := range list {
			for second, b := range list {
				if n := apart(a, b); n != second-first || apart(b, a) != -n {
					t.Errorf("calendar %d: %v and %v are %d apart", i, a, b, n)
				}
				for _, between := range list {
					if apart(a, between)+apart(between, b) != apart(a, b) {
						t.Errorf("calendar %d: %v, %v and %v do not add up", i, a, between, b)
					}
				}
			}
		}
	}
}

// P1.10: up to the tick that is told no Second can be divided; there it can; and from there the same is told at once.
func TestTheAnnouncement(t *testing.T) {
	for i, c := range calendars() {
		list := all(t, c)
		for _, each := range []int{1, 2, 3, 5, 7, 10, 11, 30, 59, 60} {
			for tick := range list {
				next, e := dial.Next(c, tick, each)
				if e == api.ErrNone {
					next = len(list)
				} else if e != api.OK || next < tick || next >= len(list) || list[next].Second%each != 0 {
					t.Fatalf("calendar %d: Next of %d by %d: %d, %d", i, tick, each, next, e)
				} else if n, f := dial.Next(c, next, each); n != next || f != api.OK {
					t.Errorf("calendar %d: Next of %d by %d: %d, %d", i, next, each, n, f)
				}
				for between := tick; between < next; between++ {
					if list[between].Second%each == 0 {
						t.Errorf("calendar %d: Next of %d by %d passes %d", i, tick, each, between)
					}
				}
			}
		}
	}
}

// P1.11: a town that is 0 minutes ahead shows what the calendar says; as long as nothing changes readings increase, and none comes twice.
func TestTheTown(t *testing.T) {
	for i, c := range calendars() {
		list := all(t, c)
		if l := shown(t, c, place(0)); !slices.Equal(l, list) {
			t.Errorf("calendar %d: a town that is 0 minutes ahead shows %v", i, l)
		}
		for _, town := range towns(len(list)) {
			clocks := shown(t, c, town)
			for tick := 1; tick < len(clocks); tick++ {
				changes := slices.ContainsFunc(town.Changes, func(x api.DialChange) bool { return x.Tick == tick })
				if !changes && !later(clocks[tick], clocks[tick-1]) {
					t.Errorf("calendar %d, town %v: %v comes behind %v", i, town, clocks[tick], clocks[tick-1])
				}
				if clocks[tick].Second != list[tick].Second {
					t.Errorf("calendar %d, town %v: the second of %d is %d", i, town, tick, clocks[tick].Second)
				}
			}
			if n := good[int](t, "Twice")(dial.Twice(c, place(town.Ahead))); n != 0 {
				t.Errorf("calendar %d: %d readings come twice where nothing changes", i, n)
			}
		}
	}
}

// P1.11: all ticks of a local reading have it, and no other one does.
func TestTicksOfTheTown(t *testing.T) {
	for i, c := range calendars() {
		for _, town := range towns(len(listed(c))) {
			clocks := shown(t, c, town)
			for _, r := range clocks {
				l := good[[]int](t, "Ticks")(dial.Ticks(c, town, r))
				if !slices.Equal(l, ticksOf(clocks, r)) {
					t.Errorf("calendar %d, town %v: Ticks of %v: %v", i, town, r, l)
				}
			}
		}
	}
}

// P1.12: where a town is never less ahead than before, no reading comes twice.
func TestNeverLessAhead(t *testing.T) {
	for i, c := range calendars() {
		total := len(listed(c))
		if total < 8 {
			continue
		}
		for _, town := range []api.DialTown{place(-1440, change(total/2, 1440)), place(-2, change(1, -1), change(total/4, -1), change(total/2, 0), change(total/2+1, 9), change(total-1, 10)), place(3, change(total/2, 3))} {
			if n := good[int](t, "Twice")(dial.Twice(c, town)); n != 0 {
				t.Errorf("calendar %d, town %v: %d come twice", i, town, n)
			}
			clocks := shown(t, c, town)
			for _, r := range clocks {
				if l := good[[]int](t, "Ticks")(dial.Ticks(c, town, r)); len(l) != 1 {
					t.Errorf("calendar %d, town %v: %v comes at %v", i, town, r, l)
				}
			}
		}
	}
}

// P1.12: a change later than all others makes no tick before it come twice.
func TestLastChange(t *testing.T) {
	for i, c := range calendars() {
		total := len(listed(c))
		for _, town := range towns(total) {
			last := 0
			if n := len(town.Changes); n == api.DialChanges {
				continue
			} else if n > 0 {
				last = town.Changes[n-1].Tick
			}
			clocks := shown(t, c, town)
			for tick := last + 1; tick < total; tick += 1 + total/3 {
				for _, ahead := range []int{-1440, -3, 0, 2, 1440} {
					_, more := copied(c, town)
					more.Changes = append(more.Changes, change(tick, ahead))
					if !slices.Equal(shown(t, c, more)[:tick], clocks[:tick]) {
						t.Fatalf("calendar %d, town %v: the last change reaches ticks before it", i, more)
					}
					n := good[int](t, "Twice")(dial.Twice(c, more))
					if before := twiceBefore(clocks, tick); n < before || n > before+total-tick {
						t.Errorf("calendar %d, town %v: %d come twice, %d of them before the last change", i, more, n, before)
					}
				}
			}
		}
	}
}

// twiceBefore returns how many of the first readings of a list come a second time.
func twiceBefore(list []api.DialReading, many int) int {
	seen := map[api.DialReading]bool{}
	count := 0
	for _, r := range list[:many] {
		if seen[r] {
			count++
		}
		seen[r] = true
	}
	return count
}

// R3: between a nil list and an empty one there is no difference.
func TestNilAndEmpty(t *testing.T) {
	c, town := week(), place(5)
	empty, none := c, town
	empty.Decrees, none.Changes = []api.DialDecree{}, []api.DialChange{}
	if !slices.Equal(all(t, c), all(t, empty)) || !slices.Equal(shown(t, c, town), shown(t, empty, none)) {
		t.Error("an empty list is not like none")
	}
}

// P1: no function panics, whatever it gets.
func TestAnyArguments(t *testing.T) {
	numbers := []int{math.MinInt, math.MinInt + 1, -1441, -1, 0, 1, 2, 3, 10, 60, 61, 240, 241, 1 << 32, math.MaxInt - 1, math.MaxInt}
	list := calendars()
	for _, c := range wrongCalendars() {
		list = append(list, c)
	}
	for _, n := range numbers {
		list = append(list, days(n, n, n, n), days(3, 4, 10, n), days(n, 4, 10, 2), days(3, n, 10, 2), days(3, 4, n, 2), week(plus(n)), week(minus(0), plus(n)))
	}
	for _, c := range list {
		for i, n := range numbers {
			m := numbers[(i+5)%len(numbers)]
			for _, town := range []api.DialTown{place(5, change(60, 3)), place(n), place(0, change(n, m)), place(m, change(1, 2), change(n, n))} {
				callAll(c, town, at(n, m, n, m), at(m, 0, 0, n), n, m)
				callAll(c, town, at(0, 0, n, 0), at(n, n, n, n), m, 7)
			}
		}
	}
}

// P2: the same arguments have the same result, whatever was called before.
func TestSameResults(t *testing.T) {
	type results struct {
		total, next, twice, tick int
		local                    api.DialReading
	}
	ask := func(c api.DialCalendar, town api.DialTown) (r results) {
		r.total, _ = dial.Total(c)
		r.next, _ = dial.Next(c, 3, 7)
		r.twice, _ = dial.Twice(c, town)
		r.tick, _ = dial.Tick(c, at(0, 0, 0, 1))
		r.local, _ = dial.Local(c, town, 1)
		return r
	}
	var first []results
	for range 2 {
		var now []results
		for _, c := range calendars() {
			oldCalendar, _ := copied(c, api.DialTown{})
			for _, town := range towns(len(listed(c))) {
				_, oldTown := copied(c, town)
				now = append(now, ask(c, town))
				if !sameCalendar(c, oldCalendar) || !sameTown(town, oldTown) {
					t.Error("an argument has changed")
				}
			}
		}
		if first != nil && !slices.Equal(first, now) {
			t.Error("the same arguments have another result")
		}
		first = now
	}
}
