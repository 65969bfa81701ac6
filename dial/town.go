package dial

import (
	"math/bits"

	"remontoir/api"
)

// town is a valid town, with its calendar.
type town struct {
	calendar
	api.DialTown
}

// period is the ticks from one on, before another one, at which a town is so many minutes ahead.
type period struct{ from, until, ahead int }

// newTown returns a town in the calculation, or the first error.
func newTown(c api.DialCalendar, t api.DialTown) (town, api.Errno) {
	x, e := newCalendar(c)
	if e != api.OK {
		return town{}, e
	}
	if !x.isTown(t) {
		return town{}, api.ErrDialTown
	}
	return town{calendar: x, DialTown: t}, api.OK
}

func (c calendar) isTown(t api.DialTown) bool {
	if !isAhead(t.Ahead) || len(t.Changes) > api.DialChanges {
		return false
	}
	var ticks []int
	for _, x := range t.Changes {
		if !isAhead(x.Ahead) {
			return false
		}
		ticks = append(ticks, x.Tick)
	}
	return increasing(0, ticks, c.hasReading)
}

func isAhead(minutes int) bool { return within(minutes, -api.DialAhead, api.DialAhead) }

// periods returns all periods of a town, one after the other.
func (t town) periods() []period {
	total := t.total()
	list := []period{{from: 0, until: total, ahead: t.Ahead}}
	for i, x := range t.Changes {
		list[i].until = x.Tick
		list = append(list, period{from: x.Tick, until: total, ahead: x.Ahead})
	}
	return list
}

func (p period) has(tick int) bool { return within(tick, p.from, p.until-1) }

// aheadAt returns how many minutes the town is ahead at a tick.
func (t town) aheadAt(tick int) int {
	ahead := t.Ahead
	for _, x := range t.Changes {
		if x.Tick <= tick {
			ahead = x.Ahead
		}
	}
	return ahead
}

// local returns the reading that is so many minutes ahead of a reading.
func (t town) local(r api.DialReading, ahead int) api.DialReading {
	return t.divided(t.counted(r)+ahead, r.Second)
}

// ticks returns all ticks of a local reading: in each period it can be that of one tick only.
func (t town) ticks(local api.DialReading) []int {
	if !t.isDivided(local) {
		return nil
	}
	var list []int
	for _, p := range t.periods() {
		tick, ok := t.tick(t.local(local, -p.ahead))
		if ok && p.has(tick) {
			list = append(list, tick)
		}
	}
	return list[:len(list):len(list)]
}

// twice returns how many ticks have a local reading that an earlier one has, too. What was seen is kept by minutes, with a bit for each second, because long calendars have hundreds of thousands of ticks.
func (t town) twice() int {
	seen := map[api.DialReading]uint64{}
	count := 0
	for _, p := range t.periods() {
		for r, many := range t.minutes(p.from, p.until) {
			seconds := (uint64(1)<<many - 1) << r.Second
			minute := t.local(r, p.ahead)
			minute.Second = 0
			before := seen[minute]
			count += bits.OnesCount64(before & seconds)
			seen[minute] = before | seconds
		}
	}
	return count
}
