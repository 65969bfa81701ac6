package caller

import "remontoir/api"

// hour is one of a book.
type hour struct {
	book
	number int
}

// newHour returns an hour that is asked about, or the first error.
func newHour(b api.CallerBook, number int) (hour, api.Errno) {
	x, e := newBook(b)
	if e != api.OK {
		return hour{}, e
	}
	if !isNumber(number, len(x.Hours)) {
		return hour{}, api.ErrCallerAsk
	}
	return hour{x, number}, api.OK
}

// begin returns when the first whole announcement begins that is said from a time on.
func (h hour) begin(at int) int { return parts(at, h.Each) * h.Each }

// serve serves an hour on some channels.
func (h hour) serve(many int) service {
	s := service{hour: h}
	for _, c := range h.Hours[h.number] {
		at, channel := s.ends.free(c.At, many)
		if at > c.At+c.Wait {
			s.calls = append(s.calls, givenUp(c))
			continue
		}
		end := h.begin(at) + c.Hear*h.Each
		s.ends[channel] = end
		s.calls = append(s.calls, call{c, api.CallerServed{Joined: at, Left: end, Channel: channel}})
	}
	return s
}

// count is what was counted: how many calls are joined, and for how many seconds together.
type count struct{ joined, seconds int }

// fitting returns all numbers of channels on which so much is counted.
func (h hour) fitting(counted count) []int {
	known := map[count][]int{}
	for fewer := range api.CallerChannels {
		n := h.serve(fewer + 1).counted()
		known[n] = append(known[n], fewer+1)
	}
	list := known[counted]
	return list[:len(list):len(list)]
}

// channels is how the channels are: when the last call on each of them ends. No call ends at 0, so that 0 tells that nobody was joined there.
type channels [api.CallerChannels]int

// free returns the least time, from a time on, at which one of so many channels is free, and the first one that is free then.
func (c channels) free(from, many int) (at, channel int) {
	at = max(from, c[0])
	for i := range many {
		if free := max(from, c[i]); free < at {
			at, channel = free, i
		}
	}
	return at, channel
}
