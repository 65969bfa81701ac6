package slave

import (
	"iter"
	"slices"

	"remontoir/api"
)

// line is a valid line, with what matters of its events.
type line struct {
	api.SlaveLine
	events []event
}

// newLine returns a line in the calculation, or ErrSlave.
func newLine(l api.SlaveLine) (line, api.Errno) {
	x := line{SlaveLine: l}
	if !within(l.Ring, 2, api.SlaveRing) || len(l.Starts) == 0 ||
		!areAll(l.Starts, api.SlaveClocks, x.isStart) || !areAll(l.Events, api.SlaveEvents, x.isEvent) {
		return line{}, api.ErrSlave
	}
	for _, e := range l.Events {
		x.events = append(x.events, kinds()[e.Kind].kept(event{e}))
	}
	return x, api.OK
}

func (l line) isMinute(minute int) bool { return within(minute, 0, l.Ring-1) }

func (l line) isClock(who int) bool { return within(who, 0, len(l.Starts)-1) }

func (l line) isStart(s api.SlaveStart) bool { return l.isMinute(s.Shown) && isSign(s.Last) }

func (l line) isEvent(e api.SlaveEvent) bool {
	return within(e.Kind, 0, len(kinds())-1) && kinds()[e.Kind].is(l, event{e})
}

func (l line) isSend(e event) bool { return isSign(e.First) && l.isHome(e) }

func (l line) isHome(e event) bool {
	return within(e.Count, 0, api.SlaveCount) && within(e.Lost, 0, api.SlaveLost)
}

func (l line) isLook(e event) bool { return l.isClock(e.Who) && l.isMinute(e.Shown) }

// kind is a kind of events: whether one is valid, what of it matters, and what a slave clock is that got one of its pulses.
type kind struct {
	is   func(l line, e event) bool
	kept func(e event) event
	got  func(s state, sign, ring int) state
}

// kinds tell what each kind of event does.
func kinds() [3]kind {
	return [...]kind{
		api.SlaveSend: {line.isSend, event.send, state.pulled},
		api.SlaveHome: {line.isHome, event.home, state.homed},
		api.SlaveLook: {line.isLook, event.look, state.seen},
	}
}

// event is one of a line, or of a plan. Fields that do not matter are 0 in it, so that a look has no pulses, and none to lose.
type event struct{ api.SlaveEvent }

// newSend returns the event that sends so many pulses, of which none is lost.
func newSend(first, count int) event {
	return event{api.SlaveEvent{Kind: api.SlaveSend, First: first, Count: count}}
}

// newHome returns the event that sends so many home pulses, of which none is lost.
func newHome(count int) event {
	return event{api.SlaveEvent{Kind: api.SlaveHome, Count: count}}
}

func (e event) send() event {
	return event{api.SlaveEvent{Kind: e.Kind, First: e.First, Count: e.Count, Lost: e.Lost}}
}

func (e event) home() event {
	return event{api.SlaveEvent{Kind: e.Kind, Count: e.Count, Lost: e.Lost}}
}

func (e event) look() event {
	return event{api.SlaveEvent{Kind: e.Kind, Who: e.Who, Shown: e.Shown}}
}

// pulses are those of an event from a number on, each with its sign; the signs of home pulses do nothing.
func (e event) pulses(from int) iter.Seq2[int, int] {
	return func(yield func(int, int) bool) {
		for number := from; number < e.Count; number++ {
			if !yield(number, (e.First+number)%signs) {
				return
			}
		}
	}
}

// canLose reports whether a slave clock can lose just these pulses of an event.
func (e event) canLose(lost []int) bool {
	if len(lost) > e.Lost {
		return false
	}
	before := -1
	for _, number := range lost {
		if !within(number, before+1, e.Count-1) {
			return false
		}
		before = number
	}
	return true
}

// contradicts reports whether an event is a look at a slave clock that does not show what the event says.
func (e event) contradicts(who int, s state) bool {
	return e.Kind == api.SlaveLook && e.Who == who && e.Shown != s.shown
}

// after returns the state of a slave clock behind an event of which it lost some pulses.
func (l line) after(e event, s state, lost []int) state {
	got := kinds()[e.Kind].got
	for number, sign := range e.pulses(0) {
		if !slices.Contains(lost, number) {
			s = got(s, sign, l.Ring)
		}
	}
	return s
}
