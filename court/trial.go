package court

import (
	"iter"

	"remontoir/api"
	"remontoir/dial"
)

// mostEach is how many ticks a stage has, at most.
const mostEach = 1000000

// The numbers that have bounds.
const (
	boundEach = iota
	boundStep
	boundAhead
	boundLate
	boundKind
)

// bounds are from what to what each of these numbers is.
var bounds = [...]api.Span{
	boundEach:  {Low: 1, High: mostEach},
	boundStep:  {Low: 0, High: api.CourtStep},
	boundAhead: {Low: -api.CourtError, High: api.CourtError},
	boundLate:  {Low: 0, High: api.CourtLate},
	boundKind:  {Low: api.CourtSaid, High: api.CourtWithin},
}

// point is a stage, and how many ticks ahead the clock is in it.
type point struct{ stage, ahead int }

// trial is a valid case, how many ticks its calendar has, and which entries are true if the errors have a point.
type trial struct {
	api.CourtCase
	ticks int
	told  map[point]entries
}

// newTrial returns a case in the calculation, or ErrCourt.
func newTrial(c api.CourtCase) (*trial, api.Errno) {
	if dial.CheckTown(c.Calendar, c.Town) != api.OK {
		return nil, api.ErrCourt
	}
	ticks, e := dial.Total(c.Calendar)
	x := &trial{CourtCase: c, ticks: ticks, told: map[point]entries{}}
	if e != api.OK || !x.hasBounds() || !areAll(c.Log, api.CourtLog, x.isEntry) {
		return nil, api.ErrCourt
	}
	for number, entry := range c.Log {
		for _, at := range x.showings(entry.Reading, saidIn(entry)) {
			x.told[at] |= 1 << number
		}
	}
	return x, api.OK
}

func (x *trial) hasBounds() bool {
	return isIn(x.Each, bounds[boundEach]) && isIn(x.Step, bounds[boundStep]) &&
		isSpan(x.First, bounds[boundAhead]) && x.stages() <= api.CourtStages
}

func (x *trial) isEntry(e api.CourtEntry) bool {
	return isSpan(e.When, x.calendar()) && isSpan(e.Late, bounds[boundLate])
}

// saidIn returns from when to when the reading of an entry can have been said; that can be outside of the calendar.
func saidIn(e api.CourtEntry) api.Span {
	return api.Span{Low: e.When.Low - e.Late.High, High: e.When.High - e.Late.Low}
}

// calendar returns the span of all ticks.
func (x *trial) calendar() api.Span { return api.Span{Low: 0, High: x.ticks - 1} }

func (x *trial) isTick(n int) bool { return isIn(n, x.calendar()) }

func (x *trial) stageOf(tick int) int { return tick / x.Each }

func (x *trial) lastStage() int { return x.stageOf(x.ticks - 1) }

func (x *trial) stages() int { return x.lastStage() + 1 }

// showings are the ticks of a span at which the clock can show a reading, each with the point at which it does. A tick can come twice, because a reading can.
func (x *trial) showings(r api.DialReading, in api.Span) iter.Seq2[int, point] {
	shown, _ := dial.Ticks(x.Calendar, x.Town, r)
	return func(yield func(int, point) bool) {
		for _, other := range shown {
			for ahead := range numbers(bounds[boundAhead]) {
				tick := other - ahead
				if !x.isTick(tick) || !isIn(tick, in) {
					continue
				}
				if !yield(tick, point{x.stageOf(tick), ahead}) {
					return
				}
			}
		}
	}
}

// readings returns what the clock shows at a tick with each of some errors, if it shows something.
func (x *trial) readings(tick int, errors []int) []api.DialReading {
	var list []api.DialReading
	for _, ahead := range errors {
		if r, e := dial.Local(x.Calendar, x.Town, tick+ahead); e == api.OK {
			list = append(list, r)
		}
	}
	return list[:len(list):len(list)]
}
