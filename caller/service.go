package caller

import (
	"iter"

	"remontoir/api"
)

// service is an hour that is served on some channels, and how these are then.
type service struct {
	hour
	calls []call
	ends  channels
}

// newService returns how an hour that is asked about is served, or the first error.
func newService(b api.CallerBook, number, many int) (service, api.Errno) {
	h, e := newHour(b, number)
	if e != api.OK {
		return service{}, e
	}
	if !isIn(many, bounds[boundChannels]) {
		return service{}, api.ErrCallerAsk
	}
	return h.serve(many), api.OK
}

// isIdle reports whether nobody was joined on any channel.
func (s service) isIdle() bool { return s.ends == channels{} }

// joined are the calls that are joined; they are in the order of their times.
func (s service) joined() iter.Seq[call] {
	return func(yield func(call) bool) {
	calls:
		for _, c := range s.calls {
			if !c.isJoined() {
				continue calls
			}
			if !yield(c) {
				return
			}
		}
	}
}

// served returns how each call is served.
func (s service) served() []api.CallerServed {
	var list []api.CallerServed
	for _, c := range s.calls {
		list = append(list, c.CallerServed)
	}
	return list[:len(list):len(list)]
}

// lost returns the calls that are given up.
func (s service) lost() []int {
	var list []int
	for i, c := range s.calls {
		if !c.isJoined() {
			list = append(list, i)
		}
	}
	return list[:len(list):len(list)]
}

// busy returns how many calls are joined at a time.
func (s service) busy(time int) int {
	many := 0
	for c := range s.joined() {
		if c.isOn(time) {
			many++
		}
	}
	return many
}

// busiest returns how many calls are joined at one time at most, and when first. They become more only when a call is joined, so that other times need no look.
func (s service) busiest() (many, at int) {
	for c := range s.joined() {
		if n := s.busy(c.Joined); n > many {
			many, at = n, c.Joined
		}
	}
	return many, at
}

// heard returns when the first and the last whole announcement begin that a joined call hears.
func (s service) heard(c call) api.Span {
	return api.Span{Low: s.begin(c.Joined), High: c.Left - s.Each}
}

// counted returns how many calls are joined, and for how many seconds.
func (s service) counted() count {
	var times []int
	for c := range s.joined() {
		times = append(times, c.seconds())
	}
	return count{len(times), sum(times...)}
}
