package beat

import (
	"iter"

	"remontoir/api"
)

// source is where ties come from, and how one of them comes to what is known already of the same two moments.
type source struct {
	ties func(cellar) iter.Seq[tie]
	join func(before, more api.Span) api.Span
}

// sources are in their order, because steps are added to the rates.
func sources() [4]source {
	return [...]source{
		{cellar.limits, both},
		{cellar.rates, both},
		{cellar.steps, added},
		{cellar.comparisons, both},
	}
}

// known is between what the offset at one moment, less that at another one, lies for all that is told of just these two.
type known map[moment]map[moment]api.Span

// learn joins a tie to what is known.
func (k known) learn(t tie, join func(before, more api.Span) api.Span) {
	by := t.by
	if before, ok := k[t.one][t.other]; ok {
		by = join(before, by)
	}
	k[t.one][t.other] = by
}

// newKnown returns what a cellar's sources tell, of all moments both ways round.
func newKnown(c cellar) known {
	k := known{}
	for m := range c.moments() {
		k[m] = map[moment]api.Span{}
	}
	for _, s := range sources() {
		for t := range s.ties(c) {
			k.learn(t, s.join)
			k.learn(t.turned(), s.join)
		}
	}
	return k
}

// web is a cellar with all that is known of two of its moments, both ways round.
type web struct {
	cellar
	ties []tie
}

func newWeb(c cellar) web {
	k := newKnown(c)
	w := web{cellar: c}
	for one := range c.moments() {
		of := k[one]
	others:
		for other := range c.moments() {
			by, ok := of[other]
			if !ok {
				continue others
			}
			w.ties = append(w.ties, tie{one, other, by})
		}
	}
	return w
}

// newQuestion returns the web of a cellar that is asked of clocks at hours, or the first error.
func newQuestion(c api.BeatCellar, clocks, hours []int) (web, api.Errno) {
	x, e := newCellar(c)
	if e != api.OK {
		return web{}, e
	}
	if !areAll(clocks, len(clocks), x.isClock) || !areAll(hours, len(hours), x.isHour) {
		return web{}, api.ErrBeatAsk
	}
	return newWeb(x), api.OK
}

// offsets are how far the clocks are off at each hour; the first row is that of true time.
type offsets [api.BeatClocks + 1][api.BeatHours + 1]int

func (o *offsets) at(m moment) *int { return &o[m.clock-trueTime][m.hour] }

// newOffsets returns offsets from rows, if each clock has one, and in it a number for each hour.
func (w web) newOffsets(rows [][]int) (offsets, bool) {
	var o offsets
	if len(rows) != len(w.Rates) {
		return o, false
	}
	for clock, row := range rows {
		if len(row) != w.Hours+1 {
			return o, false
		}
		for hour, n := range row {
			*o.at(at(clock, hour)) = n
		}
	}
	return o, true
}

// rows returns a row for each clock, of offsets that lie to a side.
func (w web) rows(o offsets, s side) [][]int {
	var rows [][]int
	for clock := range len(w.Rates) {
		row := o[clock-trueTime]
		for hour := range row {
			row[hour] *= s.sign
		}
		rows = append(rows, row[:w.Hours+1:w.Hours+1])
	}
	return rows
}

// areTruth reports whether offsets keep to all ties. Differences of great numbers wrap around, but these numbers do not keep to the limits.
func (w web) areTruth(o offsets) bool {
	for _, t := range w.ties {
		if !within(*o.at(t.one)-*o.at(t.other), t.by.Low, t.by.High) {
			return false
		}
	}
	return true
}

// narrow brings each offset as near to the others as the ties demand.
func (w web) narrow(o *offsets, s side) {
	for _, t := range w.ties {
		n := o.at(t.one)
		*n = min(*n, *o.at(t.other)+s.reach(t.by))
	}
}

// farthest returns how far to a side of the offset at one moment those at all moments can lie, all of them at once, if the cellar can be true. What bounds an offset most comes over a chain of ties that passes each moment once, so there are as many rounds as moments; if something still changes in the last one, ties contradict each other.
func (w web) farthest(from moment, s side) (offsets, bool) {
	var now offsets
	for m := range w.moments() {
		*now.at(m) = 2 * api.BeatMost // no two offsets are farther apart
	}
	*now.at(from) = 0
	for range w.moments() {
		before := now
		w.narrow(&now, s)
		if now == before {
			return now, true
		}
	}
	return offsets{}, false
}

// apart returns between what the offset at one moment, less that at another one, lies, or ErrBeatFalse.
func (w web) apart(one, other moment) (api.Span, api.Errno) {
	most, canBe := w.farthest(other, ahead())
	if !canBe {
		return api.Span{}, api.ErrBeatFalse
	}
	least, _ := w.farthest(other, behind())
	return api.Span{Low: -*least.at(one), High: *most.at(one)}, api.OK
}

// offset returns between what lies how far a clock is off at an hour, or ErrBeatFalse.
func (w web) offset(clock, hour int) (api.Span, api.Errno) {
	return w.apart(at(clock, hour), at(trueTime, 0))
}

// best returns the first clock whose offset at an hour lies in the narrowest span, and how wide this is, or ErrBeatFalse.
func (w web) best(hour int) (int, int, api.Errno) {
	best, least := 0, 0
	for clock := range len(w.Rates) {
		s, e := w.offset(clock, hour)
		if e != api.OK {
			return 0, 0, e
		}
		if wide := s.High - s.Low; clock == 0 || wide < least {
			best, least = clock, wide
		}
	}
	return best, least, api.OK
}
