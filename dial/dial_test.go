package dial_test

import (
	"math"
	"slices"
	"testing"

	"remontoir/api"
	"remontoir/dial"
)

// wrongCalendars are calendars that are not valid, each by one thing.
func wrongCalendars() map[string]api.DialCalendar {
	ten := days(1, 1, 2, 10)
	for day := range 10 {
		ten.Decrees = append(ten.Decrees, plus(day))
	}
	ten.Decrees = append(ten.Decrees, plus(10))
	return map[string]api.DialCalendar{
		"none":                {},
		"no hours":            days(0, 4, 10, 2),
		"hours below 0":       days(-3, 4, 10, 2),
		"25 hours":            days(25, 4, 10, 2),
		"no minutes":          days(3, 0, 10, 2),
		"minutes below 0":     days(3, -4, 10, 2),
		"61 minutes":          days(3, 61, 10, 2),
		"no seconds":          days(3, 4, 0, 2),
		"one second":          days(3, 4, 1, 2),
		"seconds below 0":     days(3, 4, -10, 2),
		"61 seconds":          days(3, 4, 61, 2),
		"no days":             days(3, 4, 10, 0),
		"days below 0":        days(3, 4, 10, -1),
		"11 days":             days(3, 4, 10, 11),
		"a decree below 0":    week(plus(-1)),
		"a decree behind all": week(minus(2)),
		"a decree far behind": week(minus(math.MaxInt)),
		"a day twice":         week(plus(0), plus(0)),
		"a day both ways":     week(plus(1), minus(1)),
		"days turned round":   week(plus(1), plus(0)),
		"11 decrees":          ten,
	}
}

// wrongTowns are towns that are not valid ones of the calendar of the examples, each by one thing.
func wrongTowns() map[string]api.DialTown {
	return map[string]api.DialTown{
		"too far ahead":                place(1441),
		"too far behind":               place(-1441),
		"a change too far ahead":       place(0, change(5, 1441)),
		"a change too far behind":      place(0, change(5, -1441)),
		"a later change too far ahead": place(0, change(5, 0), change(6, 1441)),
		"a change at 0":                place(0, change(0, 1)),
		"a change below 0":             place(0, change(-1, 1)),
		"a change behind all":          place(0, change(241, 1)),
		"a change far behind":          place(0, change(math.MaxInt, 1)),
		"a tick twice":                 place(0, change(5, 1), change(5, 2)),
		"ticks turned round":           place(0, change(6, 1), change(5, 2)),
		"7 changes":                    place(0, change(1, 0), change(2, 0), change(3, 0), change(4, 0), change(5, 0), change(6, 0), change(7, 0)),
	}
}

// P1.1: which calendars are valid.
func TestCheck(t *testing.T) {
	for name, c := range wrongCalendars() {
		if e := dial.Check(c); e != api.ErrDial {
			t.Errorf("%s: %d", name, e)
		}
	}
	ten := days(24, 60, 60, 10)
	for day := range 10 {
		ten.Decrees = append(ten.Decrees, api.DialDecree{Day: day, Plus: day%2 == 0})
	}
	for i, c := range append(calendars(), days(24, 60, 60, 10), ten, days(1, 1, 2, 1), days(24, 1, 2, 1), days(1, 60, 2, 1), days(1, 1, 60, 1), days(1, 1, 2, 10)) {
		if e := dial.Check(c); e != api.OK {
			t.Errorf("the valid calendar %d: %d", i, e)
		}
	}
}

// P1.1, P1: all functions return ErrDial first, also where every other error applies, and zero values with it.
func TestWrongCalendarFirst(t *testing.T) {
	no := at(-1, -1, -1, -1)
	for name, c := range wrongCalendars() {
		bad := place(1441)
		length, e1 := dial.Length(c, -1)
		total, e2 := dial.Total(c)
		reading, e3 := dial.Reading(c, -1)
		tick, e4 := dial.Tick(c, no)
		apart, e5 := dial.Apart(c, no, no)
		next, e6 := dial.Next(c, -1, 0)
		e7 := dial.CheckTown(c, bad)
		local, e8 := dial.Local(c, bad, -1)
		ticks, e9 := dial.Ticks(c, bad, no)
		twice, e10 := dial.Twice(c, bad)
		for i, e := range []api.Errno{e1, e2, e3, e4, e5, e6, e7, e8, e9, e10} {
			if e != api.ErrDial {
				t.Errorf("%s: function %d: %d", name, i+1, e)
			}
		}
		if length != 0 || total != 0 || reading != at(0, 0, 0, 0) || tick != 0 || apart != 0 || next != 0 || local != at(0, 0, 0, 0) || len(ticks) != 0 || twice != 0 {
			t.Errorf("%s: something is told with an error", name)
		}
	}
}

// P1.1: Length and Total.
func TestLength(t *testing.T) {
	for i, x := range []struct {
		c       api.DialCalendar
		lengths []int
	}{
		{week(), []int{120, 120}}, {week(plus(0)), []int{121, 120}}, {week(minus(1)), []int{120, 119}}, {week(plus(0), minus(1)), []int{121, 119}},
		{days(1, 1, 2, 1, minus(0)), []int{1}}, {days(1, 1, 2, 3, plus(1)), []int{2, 3, 2}},
		{days(24, 60, 60, 2, plus(0)), []int{86401, 86400}}, {days(24, 60, 60, 2, minus(1)), []int{86400, 86399}},
	} {
		total := 0
		for day, want := range x.lengths {
			if n, e := dial.Length(x.c, day); n != want || e != api.OK {
				t.Errorf("Length %d of the day %d: %d, %d", i, day, n, e)
			}
			total += want
		}
		if n, e := dial.Total(x.c); n != total || e != api.OK {
			t.Errorf("Total %d: %d, %d", i, n, e)
		}
		for _, day := range []int{-1, len(x.lengths), math.MinInt, math.MaxInt} {
			if n, e := dial.Length(x.c, day); n != 0 || e != api.ErrDialAsk {
				t.Errorf("Length %d of no day %d: %d, %d", i, day, n, e)
			}
		}
	}
}

// P1.2, P1.7: Reading and Tick, for all ticks of many calendars.
func TestReadingAndTick(t *testing.T) {
	for i, c := range calendars() {
		list := listed(c)
		if n, e := dial.Total(c); n != len(list) || e != api.OK {
			t.Errorf("calendar %d: Total: %d, %d", i, n, e)
		}
		for tick, want := range list {
			if r, e := dial.Reading(c, tick); r != want || e != api.OK {
				t.Errorf("calendar %d: Reading of %d: %v, %d", i, tick, r, e)
			}
			if n, e := dial.Tick(c, want); n != tick || e != api.OK {
				t.Errorf("calendar %d: Tick of %v: %d, %d", i, want, n, e)
			}
		}
		for _, tick := range []int{-1, len(list), math.MinInt, math.MaxInt} {
			if r, e := dial.Reading(c, tick); r != at(0, 0, 0, 0) || e != api.ErrDialAsk {
				t.Errorf("calendar %d: Reading of no tick %d: %v, %d", i, tick, r, e)
			}
		}
	}
}

// P1.2: Tick tells all readings that are none from those that are.
func TestTickOfNoReading(t *testing.T) {
	for i, c := range calendars() {
		known := map[api.DialReading]int{}
		for tick, r := range listed(c) {
			known[r] = tick
		}
		for day := -1; day <= c.Days; day++ {
			for hour := -1; hour <= c.Hours; hour++ {
				for minute := -1; minute <= c.Minutes; minute++ {
					for second := -1; second <= c.Seconds+1; second++ {
						r := at(day, hour, minute, second)
						want, ok := known[r]
						n, e := dial.Tick(c, r)
						if n != want || ok != (e == api.OK) || !ok && e != api.ErrNone {
							t.Errorf("calendar %d: Tick of %v: %d, %d", i, r, n, e)
						}
					}
				}
			}
		}
	}
	// their minutes, counted through in 64 bits, would be those of readings
	for i, r := range []api.DialReading{at(1<<62, 0, 0, 0), at(0, 1<<62, 0, 0), at(-1<<62, 0, 0, 0), at(0, 0, math.MaxInt, 0), at(0, 0, 0, math.MaxInt), at(math.MinInt, math.MinInt, math.MinInt, 0), at(0, 1<<61, math.MinInt, 0), at(1, -3, 0, 0), at(0, 1, -4, 0)} {
		if n, e := dial.Tick(week(), r); n != 0 || e != api.ErrNone {
			t.Errorf("Tick of the great reading %d: %d, %d", i, n, e)
		}
	}
}

// P1.2: the examples of days as they are.
func TestRealDays(t *testing.T) {
	long := days(24, 60, 60, 10, plus(0), minus(3), plus(9))
	for _, x := range []struct {
		tick int
		r    api.DialReading
	}{
		{0, at(0, 0, 0, 0)}, {86399, at(0, 23, 59, 59)}, {86400, at(0, 23, 59, 60)}, {86401, at(1, 0, 0, 0)}, {345599, at(3, 23, 59, 58)}, {345600, at(4, 0, 0, 0)}, {864000, at(9, 23, 59, 60)},
	} {
		if r, e := dial.Reading(long, x.tick); r != x.r || e != api.OK {
			t.Errorf("Reading of %d: %v, %d", x.tick, r, e)
		}
		if n, e := dial.Tick(long, x.r); n != x.tick || e != api.OK {
			t.Errorf("Tick of %v: %d, %d", x.r, n, e)
		}
	}
	if n, e := dial.Total(long); n != 864001 || e != api.OK {
		t.Errorf("Total: %d, %d", n, e)
	}
}

// P1.2: Apart.
func TestApart(t *testing.T) {
	no := at(1, 2, 3, 10)
	for i, x := range []struct {
		a, b api.DialReading
		want int
		e    api.Errno
	}{
		{at(0, 2, 3, 0), at(1, 0, 0, 0), 11, api.OK}, {at(1, 0, 0, 0), at(0, 2, 3, 0), -11, api.OK},
		{at(0, 2, 3, 10), at(0, 2, 3, 10), 0, api.OK}, {at(0, 2, 3, 10), at(1, 0, 0, 0), 1, api.OK}, {at(0, 0, 0, 0), at(1, 2, 3, 9), 240, api.OK},
		{no, at(0, 0, 0, 0), 0, api.ErrNone}, {at(0, 0, 0, 0), no, 0, api.ErrNone}, {no, no, 0, api.ErrNone}, {at(0, 0, 0, 5), at(2, 0, 0, 0), 0, api.ErrNone},
	} {
		if n, e := dial.Apart(week(plus(0)), x.a, x.b); n != x.want || e != x.e {
			t.Errorf("Apart %d: %d, %d", i, n, e)
		}
	}
}

// P1.3, P1.10: Next, from all ticks and by all numbers.
func TestNext(t *testing.T) {
	for i, c := range calendars() {
		list := listed(c)
		for each := 1; each <= 60; each++ {
			next, want := 0, api.ErrNone
			for tick := len(list) - 1; tick >= 0; tick-- {
				if list[tick].Second%each == 0 {
					next, want = tick, api.OK
				}
				if n, e := dial.Next(c, tick, each); n != next || e != want {
					t.Fatalf("calendar %d: Next of %d by %d: %d, %d", i, tick, each, n, e)
				}
			}
		}
	}
	for _, x := range []struct{ tick, each int }{{-1, 5}, {241, 5}, {math.MinInt, 5}, {math.MaxInt, 5}, {0, 0}, {0, -1}, {0, -5}, {0, 61}, {0, math.MaxInt}, {0, math.MinInt}, {-1, 0}, {240, 61}} {
		if n, e := dial.Next(week(plus(0)), x.tick, x.each); n != 0 || e != api.ErrDialAsk {
			t.Errorf("Next of %d by %d: %d, %d", x.tick, x.each, n, e)
		}
	}
}

// P1.3: the second that is put in is divided like any other.
func TestNextOfSecondPutIn(t *testing.T) {
	for i, x := range []struct {
		c                api.DialCalendar
		tick, each, want int
		e                api.Errno
	}{
		{week(plus(0)), 115, 5, 115, api.OK}, {week(plus(0)), 116, 5, 120, api.OK}, {week(plus(0)), 118, 10, 120, api.OK}, {week(plus(0)), 236, 10, 0, api.ErrNone},
		{week(), 116, 5, 120, api.OK}, {week(), 236, 9, 239, api.OK}, {week(minus(1)), 236, 9, 0, api.ErrNone}, {week(minus(1)), 236, 4, 238, api.OK},
		{days(24, 60, 60, 1, plus(0)), 86341, 60, 86400, api.OK}, {days(24, 60, 60, 1), 86341, 60, 0, api.ErrNone}, {days(24, 60, 60, 1), 86399, 59, 86399, api.OK},
	} {
		if n, e := dial.Next(x.c, x.tick, x.each); n != x.want || e != x.e {
			t.Errorf("Next %d: %d, %d", i, n, e)
		}
	}
}

// P1.4: which towns are valid; all functions with a town return ErrDialTown next, and zero values with it.
func TestCheckTown(t *testing.T) {
	for name, town := range wrongTowns() {
		e := dial.CheckTown(week(plus(0)), town)
		local, f := dial.Local(week(plus(0)), town, -1)
		ticks, g := dial.Ticks(week(plus(0)), town, at(-1, -1, -1, -1))
		twice, h := dial.Twice(week(plus(0)), town)
		if e != api.ErrDialTown || f != api.ErrDialTown || g != api.ErrDialTown || h != api.ErrDialTown {
			t.Errorf("%s: %d, %d, %d, %d", name, e, f, g, h)
		}
		if local != at(0, 0, 0, 0) || len(ticks) != 0 || twice != 0 {
			t.Errorf("%s: something is told with an error", name)
		}
	}
	six := place(0, change(1, 0), change(2, 1440), change(3, -1440), change(4, 0), change(5, 0), change(240, 0))
	for i, town := range append(towns(241), six, place(0, change(1, 5)), place(0, change(240, 5))) {
		if e := dial.CheckTown(week(plus(0)), town); e != api.OK {
			t.Errorf("the valid town %d: %d", i, e)
		}
	}
	// which ticks there are depends on the decrees
	if e := dial.CheckTown(week(), place(0, change(240, 5))); e != api.ErrDialTown {
		t.Errorf("a change behind the last tick: %d", e)
	}
	if e := dial.CheckTown(week(minus(0)), place(0, change(239, 5))); e != api.ErrDialTown {
		t.Errorf("a change at the tick that is left out: %d", e)
	}
}

// P1.4, P1.5: Local, Ticks and Twice, for all ticks of many towns.
func TestTowns(t *testing.T) {
	for i, c := range calendars() {
		for j, town := range towns(len(listed(c))) {
			if e := dial.CheckTown(c, town); e != api.OK {
				t.Fatalf("calendar %d, town %d: %d", i, j, e)
			}
			ticks := map[api.DialReading][]int{}
			twice := 0
			for tick, want := range locals(c, town) {
				if r, e := dial.Local(c, town, tick); r != want || e != api.OK {
					t.Errorf("calendar %d, town %d: Local of %d: %v, %d", i, j, tick, r, e)
				}
				if len(ticks[want]) > 0 {
					twice++
				}
				ticks[want] = append(ticks[want], tick)
			}
			for r, want := range ticks {
				if l, e := dial.Ticks(c, town, r); !slices.Equal(l, want) || e != api.OK {
					t.Errorf("calendar %d, town %d: Ticks of %v: %v, %d", i, j, r, l, e)
				}
			}
			if n, e := dial.Twice(c, town); n != twice || e != api.OK {
				t.Errorf("calendar %d, town %d: Twice: %d, %d instead of %d", i, j, n, e, twice)
			}
		}
	}
}

// P1.4: Local of no tick.
func TestLocalOfNoTick(t *testing.T) {
	for _, tick := range []int{-1, 241, math.MinInt, math.MaxInt} {
		if r, e := dial.Local(week(plus(0)), place(5, change(60, 3)), tick); r != at(0, 0, 0, 0) || e != api.ErrDialAsk {
			t.Errorf("Local of %d: %v, %d", tick, r, e)
		}
	}
}

// P1.4, P1.5: the examples of the chapter, and days below 0 and behind the last one.
func TestTownExamples(t *testing.T) {
	c := week(plus(0))
	town := place(5, change(60, 3))
	for i, x := range []struct {
		town api.DialTown
		tick int
		want api.DialReading
	}{
		{town, 0, at(0, 1, 1, 0)}, {town, 59, at(0, 2, 2, 9)}, {town, 60, at(0, 2, 1, 0)}, {town, 120, at(1, 0, 2, 10)}, {town, 240, at(2, 0, 2, 9)},
		{place(-1), 0, at(-1, 2, 3, 0)}, {place(-12), 0, at(-1, 0, 0, 0)}, {place(-13), 0, at(-2, 2, 3, 0)}, {place(-1440), 9, at(-120, 0, 0, 9)}, {place(1440), 240, at(121, 2, 3, 9)},
	} {
		if r, e := dial.Local(c, x.town, x.tick); r != x.want || e != api.OK {
			t.Errorf("Local %d: %v, %d", i, r, e)
		}
		if l, e := dial.Ticks(c, x.town, x.want); !slices.Contains(l, x.tick) || e != api.OK {
			t.Errorf("Ticks %d: %v, %d", i, l, e)
		}
	}
	for i, x := range []struct {
		r    api.DialReading
		want []int
	}{{at(0, 2, 1, 0), []int{40, 60}}, {at(0, 2, 3, 0), []int{80}}, {at(1, 2, 3, 0), []int{201}}} {
		if l, e := dial.Ticks(c, town, x.r); !slices.Equal(l, x.want) || e != api.OK {
			t.Errorf("Ticks of the example %d: %v, %d", i, l, e)
		}
	}
	if n, e := dial.Twice(c, town); n != 20 || e != api.OK {
		t.Errorf("Twice: %d, %d", n, e)
	}
}

// ticksOf are the ticks of a local reading in a list of them.
func ticksOf(list []api.DialReading, r api.DialReading) []int {
	var ticks []int
	for tick, x := range list {
		if x == r {
			ticks = append(ticks, tick)
		}
	}
	return ticks
}

// P1.5: any numbers can be asked about; where no clock shows them there is no tick, and no error.
func TestTicksOfAnyNumbers(t *testing.T) {
	c := week(plus(0))
	asked := []api.DialReading{
		at(0, 0, 0, 0), at(2, 0, 3, 0), at(-1, 0, 0, 0), at(-120, 0, 0, 0), at(122, 0, 0, 0),
		at(0, 0, 12, 0), at(0, 0, 9, 0), at(0, 3, 0, 0), at(1, -1, 1, 0), at(1, 0, -4, 0), // counted through, the minute is one of the town
		at(0, 2, 3, 10), at(1, 0, 2, 10), at(1, 0, 2, 11), at(0, 1, 1, 10), at(0, 1, 1, -1),
	}
	for _, n := range []int{math.MinInt, math.MinInt + 1, math.MinInt / 12, -1 << 62, -1 << 61, 1 << 61, 1 << 62, math.MaxInt / 12, math.MaxInt - 1, math.MaxInt} {
		asked = append(asked, at(n, 0, 0, 0), at(n, 1, 1, 5), at(n, 2, 3, 0), at(0, n, 1, 0), at(0, 1, n, 0), at(0, 1, 1, n), at(n, n, 0, 0), at(n, n, n, n))
	}
	for i, town := range append(towns(241), place(5, change(60, 3))) {
		list := locals(c, town)
		for _, r := range asked {
			if l, e := dial.Ticks(c, town, r); !slices.Equal(l, ticksOf(list, r)) || e != api.OK {
				t.Errorf("town %d: Ticks of %v: %v, %d", i, r, l, e)
			}
		}
	}
}

// P1.5: a reading can come more than twice, the second that is put in comes in the midst of a day, and a change for a single tick counts.
func TestTwice(t *testing.T) {
	c := week(plus(0))
	for i, x := range []struct {
		c    api.DialCalendar
		town api.DialTown
		want int
	}{
		{c, place(4, change(10, 3), change(20, 2), change(30, 1)), 30},
		{c, place(0, change(40, -2), change(80, 0)), 20},
		{c, place(0, change(240, -1)), 1},
		{c, place(0, change(120, -1)), 10},
		{c, place(0, change(119, -1)), 10}, // of the ticks 119, and 121 to 129
		{c, place(0, change(121, -1), change(141, -2)), 20},
		{c, place(3, change(60, 5)), 0}, {c, place(7), 0},
		{days(24, 60, 60, 10), place(0, change(864000-7200, -60)), 3600},
		{days(24, 60, 60, 10, plus(8)), place(60, change(400000, 0), change(500000, 60), change(600000, 0)), 7200},
		{days(24, 60, 60, 10), place(1440, change(432000, -1440)), 172800},
	} {
		if n, e := dial.Twice(x.c, x.town); n != x.want || e != api.OK {
			t.Errorf("Twice %d: %d, %d instead of %d", i, n, e, x.want)
		}
	}
}
