package beat

import (
	"iter"

	"remontoir/api"
)

// trueTime stands for true time where a clock is told.
const trueTime = -1

// cellar is a valid cellar, and the clocks whose comparisons are left out.
type cellar struct {
	api.BeatCellar
	without clocks
}

// newCellar returns a cellar in the calculation, or ErrBeat.
func newCellar(c api.BeatCellar) (cellar, api.Errno) {
	x := cellar{BeatCellar: c}
	if !x.hasClocks() || !areAll(c.Opens, api.BeatOpens, x.isOpen) || !areAll(c.Pairs, api.BeatPairs, x.isPair) {
		return cellar{}, api.ErrBeat
	}
	return x, api.OK
}

func (c cellar) hasClocks() bool {
	return within(c.Hours, 1, api.BeatHours) && len(c.Rates) > 0 && areAll(c.Rates, api.BeatClocks, isRate)
}

func isRate(s api.Span) bool { return isSpan(s, api.BeatRate) }

func (c cellar) isOpen(o api.BeatOpen) bool {
	return c.isClock(o.Clock) && within(o.Hour, 0, c.Hours-1) && isSpan(o.Step, api.BeatMost)
}

func (c cellar) isPair(p api.BeatPair) bool {
	return c.isHour(p.Hour) && c.areTwo(p.One, p.Other) && isSpan(p.Read, 2*api.BeatMost)
}

// areTwo reports whether a clock can be compared with another one, or with true time.
func (c cellar) areTwo(one, other int) bool {
	return c.isClock(one) && one != other && (other == trueTime || c.isClock(other))
}

func (c cellar) isClock(clock int) bool { return within(clock, 0, len(c.Rates)-1) }

func (c cellar) isHour(hour int) bool { return within(hour, 0, c.Hours) }

// moment is a clock at an hour, at which it has an offset.
type moment struct{ clock, hour int }

// at returns the moment of a clock at an hour. True time has but one moment, because its offset is always 0.
func at(clock, hour int) moment {
	if clock == trueTime {
		return moment{clock: trueTime}
	}
	return moment{clock, hour}
}

// moments are that of true time, and those of all clocks.
func (c cellar) moments() iter.Seq[moment] {
	return func(yield func(moment) bool) {
		if !yield(at(trueTime, 0)) {
			return
		}
		for clock := range len(c.Rates) {
			for hour := range c.Hours + 1 {
				if !yield(at(clock, hour)) {
					return
				}
			}
		}
	}
}

// tie is that the offset at one moment, less that at the other one, is in a span.
type tie struct {
	one, other moment
	by         api.Span
}

// turned returns the same tie, told of the other moment.
func (t tie) turned() tie { return tie{t.other, t.one, turned(t.by)} }

// limits tie all offsets to true time.
func (c cellar) limits() iter.Seq[tie] {
	return func(yield func(tie) bool) {
		for m := range c.moments() {
			if m.clock == trueTime {
				continue
			}
			if !yield(tie{m, at(trueTime, 0), api.Span{Low: -api.BeatMost, High: api.BeatMost}}) {
				return
			}
		}
	}
}

// rates tie the offsets of a clock at an hour and at the next one.
func (c cellar) rates() iter.Seq[tie] {
	return func(yield func(tie) bool) {
		for clock, rate := range c.Rates {
			for hour := range c.Hours {
				if !yield(tie{at(clock, hour+1), at(clock, hour), rate}) {
					return
				}
			}
		}
	}
}

// steps are what is added to the rates.
func (c cellar) steps() iter.Seq[tie] {
	return func(yield func(tie) bool) {
		for _, o := range c.Opens {
			if !yield(tie{at(o.Clock, o.Hour+1), at(o.Clock, o.Hour), o.Step}) {
				return
			}
		}
	}
}

// comparisons tie the offsets of one clock and another one, or true time.
func (c cellar) comparisons() iter.Seq[tie] {
	return func(yield func(tie) bool) {
		for hour := range c.Hours + 1 {
			for p := range c.comparedAt(hour) {
				if !yield(tie{at(p.One, hour), at(p.Other, hour), p.Read}) {
					return
				}
			}
		}
	}
}

// comparedAt are the comparisons of an hour that are not left out.
func (c cellar) comparedAt(hour int) iter.Seq[api.BeatPair] {
	return func(yield func(api.BeatPair) bool) {
		for _, p := range c.Pairs {
			if p.Hour != hour || c.without.has(p.One) || c.without.has(p.Other) {
				continue
			}
			if !yield(p) {
				return
			}
		}
	}
}
