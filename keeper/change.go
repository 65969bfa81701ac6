package keeper

import (
	"remontoir/api"
	"remontoir/caller"
	"remontoir/dial"
)

// signs is how many signs pulses have.
const signs = 2

func (w *work) doTick() string {
	tick := w.numbers[0]
	_, e := dial.Reading(w.setup.Calendar, tick)
	demand(tick >= w.tick && e == api.OK, api.ErrKeeperPast)
	w.tick = tick
	return answer()
}

func (w *work) doStar() string { return w.addLook(api.StarSeen, w.setup.People) }

func (w *work) doSignal() string { return w.addLook(api.StarSignal, w.setup.Paths) }

// addLook adds a look of one who has a name among these.
func (w *work) addLook(kind int, names []string) string {
	l := api.StarLook{Kind: kind, Who: w.who(names), Night: w.numbers[0], Read: w.numbers[1], Err: w.numbers[2]}
	demand(l.Night < w.setup.Stars.Nights && within(l.Read, -api.StarReading, api.StarReading) && l.Err <= api.StarErr, api.ErrRange)
	demand(len(w.looks) < api.StarLooks, api.ErrFull)
	demand(w.canBeTrue(l), api.ErrKeeperFalse)
	w.looks = with(w.looks, l)
	return answer(len(w.looks))
}

func (w *work) doSend() string {
	said := w.addPulses(api.SlaveSend, w.sign)
	w.sign = (w.sign + w.numbers[0]) % signs
	return said
}

func (w *work) doHome() string { return w.addPulses(api.SlaveHome, 0) }

// addPulses adds an event that sends pulses.
func (w *work) addPulses(kind, first int) string {
	x := api.SlaveEvent{Kind: kind, First: first, Count: w.numbers[0], Lost: w.numbers[1]}
	demand(x.Count <= api.SlaveCount && x.Lost <= api.SlaveLost, api.ErrRange)
	demand(len(w.events) < api.SlaveEvents, api.ErrFull)
	w.events = with(w.events, x)
	return answer(len(w.events))
}

func (w *work) doLook() string {
	x := api.SlaveEvent{Kind: api.SlaveLook, Who: w.who(w.setup.Clocks), Shown: w.numbers[0]}
	demand(x.Shown < w.setup.Slaves.Ring, api.ErrRange)
	demand(len(w.events) < api.SlaveEvents, api.ErrFull)
	demand(w.canBeSo(x), api.ErrKeeperFalse)
	w.events = with(w.events, x)
	return answer(len(w.events))
}

func (w *work) doCall() string {
	c := api.CallerCall{From: w.who(w.setup.Places), At: w.tick - w.since, Wait: w.numbers[0], Hear: w.numbers[1]}
	demand(c.Wait <= api.CallerWait && within(c.Hear, 1, api.CallerHear) && c.At <= api.CallerSecond, api.ErrRange)
	demand(len(w.calls) < api.CallerCalls, api.ErrFull)
	w.calls = with(w.calls, c)
	return answer(len(w.calls))
}

func (w *work) doHour() string {
	places, house, e := caller.Pay(w.hour(), 0, w.numbers[0])
	demand(e == api.OK, api.ErrRange)
	w.receive(places, house)
	w.calls, w.since = nil, w.tick
	return answer(house)
}
