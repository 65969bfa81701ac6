package keeper

import (
	"remontoir/api"
	"remontoir/caller"
	"remontoir/dial"
	"remontoir/line"
	"remontoir/slave"
	"remontoir/star"
	"remontoir/voice"
)

// oneTick is how many hundredths of a second lie between two ticks.
const oneTick = 100

func (w *work) askTime() string {
	r, _ := dial.Reading(w.setup.Calendar, w.tick)
	return ofReading(r)
}

func (w *work) askLocal() string {
	r, _ := dial.Local(w.setup.Calendar, w.town(), w.tick)
	return ofReading(r)
}

func (w *work) askWhen() string {
	r := api.DialReading{Day: w.numbers[0], Hour: w.numbers[1], Minute: w.numbers[2], Second: w.numbers[3]}
	ticks, _ := dial.Ticks(w.setup.Calendar, w.town(), r)
	return orNone(ticks)
}

func (w *work) askNext() string { return answer(w.next()) }

func (w *work) askSay() string {
	next := w.next()
	r, _ := dial.Reading(w.setup.Calendar, next)
	words, _ := voice.Words(r)
	from, pip := w.tick*oneTick, next*oneTick
	plan, e := voice.Plan(w.setup.Voice, words, from, pip)
	demand(e == api.OK, api.ErrNone)
	first, _ := voice.Latest(w.setup.Voice, words, from, pip)
	return answer(len(plan), first)
}

func (w *work) askSooner() string {
	sooner, off, e := line.Correct(w.setup.Net, exchangeOf(w.who(w.setup.Places)))
	demand(e == api.OK, api.ErrNone)
	return answer(sooner, off)
}

func (w *work) askOffset() string {
	s, e := star.Offset(w.stars(w.looks), w.numbers[0])
	demand(e == api.OK, api.ErrRange)
	return ofSpan(s)
}

func (w *work) askPerson() string {
	s, _ := star.Person(w.stars(w.looks), w.who(w.setup.People))
	return ofSpan(s)
}

func (w *work) askPath() string {
	s, _ := star.Path(w.stars(w.looks), w.who(w.setup.Paths))
	return ofSpan(s)
}

func (w *work) askShown() string {
	minutes, _ := slave.Can(w.slaves(w.events), w.who(w.setup.Clocks))
	return answer(minutes...)
}

func (w *work) askLost() string {
	s, _ := slave.Lost(w.slaves(w.events), w.who(w.setup.Clocks))
	return ofSpan(s)
}

func (w *work) askSet() string {
	p, e := slave.Set(w.slaves(w.events), w.numbers[0])
	demand(e == api.OK, api.ErrRange)
	return answer(p.Pre, p.Home, p.First, p.Send)
}

func (w *work) askServed() string {
	lost, e := caller.Lost(w.hour(), 0, w.numbers[0])
	demand(e == api.OK, api.ErrRange)
	return orNone(lost)
}

func (w *work) askFewest() string {
	channels, _ := caller.Fewest(w.hour())
	return answer(channels)
}

func (w *work) askGot() string { return answer(w.got[w.who(w.setup.Places)]) }

func (w *work) askHouse() string { return answer(w.house) }

// town returns the town of the place that is meant, or leaves the line.
func (w *work) town() api.DialTown { return w.setup.Towns[w.who(w.setup.Places)] }

// next returns the tick of the next announcement, or leaves the line.
func (w *work) next() int {
	tick, e := dial.Next(w.setup.Calendar, w.tick+1, w.setup.Each)
	demand(e == api.OK, api.ErrNone)
	return tick
}

func ofReading(r api.DialReading) string { return answer(r.Day, r.Hour, r.Minute, r.Second) }

func ofSpan(s api.Span) string { return answer(s.Low, s.High) }

// orNone puts an answer of a list together that can be empty.
func orNone(list []int) string {
	if len(list) == 0 {
		return none
	}
	return answer(list...)
}
