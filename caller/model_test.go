package caller_test

import (
	"math/rand"
	"slices"
	"testing"

	"remontoir/api"
	"remontoir/caller"
)

// The model: the seconds of an hour pass one by one. In each of them those who wait are joined, in their turn, if a channel is free, or give up. Everything else is counted out of how the calls are served then, second by second, too.

func to(low, high int) api.Span { return api.Span{Low: low, High: high} }

func call(at, wait, hear, from int) api.CallerCall {
	return api.CallerCall{At: at, Wait: wait, Hear: hear, From: from}
}

func joined(at, left, channel int) api.CallerServed {
	return api.CallerServed{Joined: at, Left: left, Channel: channel}
}

func givenUp(left int) api.CallerServed { return joined(-1, left, -1) }

// given is the book of the chapter's examples.
func given() api.CallerBook {
	return api.CallerBook{Each: 10, Fee: 2, Rate: 3, Unit: 30, Shares: []int{40, 25}, Hours: [][]api.CallerCall{
		{call(3, 20, 2, 0), call(5, 20, 1, 1), call(12, 4, 1, 0), call(15, 30, 2, 1)},
		{call(0, 0, 1, 0), call(0, 0, 1, 0)},
	}}
}

// having is the book of the chapter's examples with other hours.
func having(hours ...[]api.CallerCall) api.CallerBook {
	b := given()
	b.Hours = hours
	return b
}

// hourOf is the same with one hour, of these calls.
func hourOf(calls ...api.CallerCall) api.CallerBook { return having(calls) }

// copied is a copy of a book that shares nothing with it.
func copied(b api.CallerBook) api.CallerBook {
	b.Shares = slices.Clone(b.Shares)
	b.Hours = slices.Clone(b.Hours)
	for i := range b.Hours {
		b.Hours[i] = slices.Clone(b.Hours[i])
	}
	return b
}

// endOf is when a call that is joined now has heard what it wants.
func endOf(each, now, hear int) int {
	for now%each != 0 {
		now++
	}
	for range hear {
		for now++; now%each != 0; {
			now++
		}
	}
	return now
}

// isOn reports whether a call is on some channel at a time.
func isOn(s api.CallerServed, now int) bool {
	return s.Channel >= 0 && s.Joined <= now && now < s.Left
}

// isFree reports whether a channel is free at a time.
func isFree(list []api.CallerServed, channel, now int) bool {
	return !slices.ContainsFunc(list, func(s api.CallerServed) bool { return s.Channel == channel && isOn(s, now) })
}

// firstFree is the first one of some channels that is free at a time, or -1.
func firstFree(list []api.CallerServed, channels, now int) int {
	for i := range channels {
		if isFree(list, i, now) {
			return i
		}
	}
	return -1
}

// served is how an hour is served, second by second.
func served(b api.CallerBook, hour, channels int) []api.CallerServed {
	calls := b.Hours[hour]
	list := slices.Repeat([]api.CallerServed{joined(-2, -2, -2)}, len(calls)) // they did not come yet
	for now, open := 0, len(calls); open > 0; now++ {
		for i, c := range calls {
			if list[i].Channel != -2 || c.At > now {
				continue
			}
			if k := firstFree(list, channels, now); k >= 0 {
				list[i] = joined(now, endOf(b.Each, now, c.Hear), k)
				open--
			} else if now == c.At+c.Wait {
				list[i] = givenUp(now)
				open--
			}
		}
	}
	return list
}

// lostOf are the calls that are given up.
func lostOf(list []api.CallerServed) []int {
	var lost []int
	for i, s := range list {
		if s.Joined < 0 {
			lost = append(lost, i)
		}
	}
	return lost
}

// fewestOf is the least number of channels on which no call is given up.
func fewestOf(b api.CallerBook) int {
	many := 1
	for hour := range b.Hours {
		for len(lostOf(served(b, hour, many))) > 0 {
			many++
		}
	}
	return many
}

// busyOf is how many calls are joined at one time, and when first.
func busyOf(list []api.CallerServed) (many, at int) {
	for now := range endOfAll(list) {
		n := 0
		for _, s := range list {
			n += number(isOn(s, now))
		}
		if n > many {
			many, at = n, now
		}
	}
	return many, at
}

// endOfAll is when nobody is joined any more.
func endOfAll(list []api.CallerServed) int {
	end := 0
	for _, s := range list {
		end = max(end, s.Left)
	}
	return end
}

// coinsOf is what a call pays: with each second in which a unit begins it is more.
func coinsOf(b api.CallerBook, s api.CallerServed) int {
	if s.Joined < 0 {
		return 0
	}
	coins := b.Fee
	for now := s.Joined; now < s.Left; now++ {
		if (now-s.Joined)%b.Unit == 0 {
			coins += b.Rate
		}
	}
	return coins
}

// paidOf is what each exchange and the house get, coin by coin.
func paidOf(b api.CallerBook, hour int, list []api.CallerServed) (places []int, house int) {
	places = make([]int, len(b.Shares))
	for i, s := range list {
		from, got := b.Hours[hour][i].From, 0
		for n := range coinsOf(b, s) {
			if (got+1)*100 <= (n+1)*b.Shares[from] {
				places[from], got = places[from]+1, got+1
			} else {
				house++
			}
		}
	}
	return places, house
}

// changeOf are the calls that gain and that lose, if an hour is served otherwise.
func changeOf(before, then []api.CallerServed) (better, worse []int) {
	for i, x := range before {
		y := then[i]
		switch {
		case x.Joined < 0 && y.Joined >= 0, x.Joined >= 0 && y.Joined >= 0 && y.Joined < x.Joined:
			better = append(better, i)
		case x.Joined >= 0 && y.Joined < 0, x.Joined >= 0 && y.Joined > x.Joined:
			worse = append(worse, i)
		}
	}
	return better, worse
}

// countOf is how many calls are joined, and for how many seconds.
func countOf(list []api.CallerServed) (many, seconds int) {
	for now := range endOfAll(list) {
		for _, s := range list {
			many += number(s.Joined == now)
			seconds += number(isOn(s, now))
		}
	}
	return many, seconds
}

func number(is bool) int {
	if is {
		return 1
	}
	return 0
}

// small are all books of one hour of three calls whose numbers are small, and some of whose announcements are short.
func small(yield func(api.CallerBook) bool) {
	b := hourOf(make([]api.CallerCall, 3)...)
	calls := b.Hours[0]
	var put func(i, at int) bool
	put = func(i, at int) bool {
		if i == len(calls) {
			return yield(b)
		}
		for ; at < 4; at++ {
			for other := range 8 {
				calls[i] = call(at, other/2, 1+other%2, i%2)
				if !put(i+1, at) {
					return false
				}
			}
		}
		return true
	}
	for b.Each = 1; b.Each <= 3; b.Each++ {
		if !put(0, 0) {
			return
		}
	}
}

// drawn are books of all sizes; in most of their hours some wait, and some give up.
func drawn(many int) []api.CallerBook {
	r := rand.New(rand.NewSource(91))
	var list []api.CallerBook
	for range many {
		b := api.CallerBook{Each: 1 + r.Intn(api.CallerEach), Fee: r.Intn(101), Rate: r.Intn(101), Unit: 1 + r.Intn(1+r.Intn(api.CallerUnit))}
		for range 1 + r.Intn(api.CallerPlaces) {
			b.Shares = append(b.Shares, r.Intn(101))
		}
		for range 1 + r.Intn(api.CallerHours) {
			b.Hours = append(b.Hours, drawnCalls(r, b))
		}
		list = append(list, b)
	}
	return list
}

// drawnCalls are those of one hour; it begins anywhere, and is more or less full.
func drawnCalls(r *rand.Rand, b api.CallerBook) []api.CallerCall {
	var calls []api.CallerCall
	at, apart, patient := r.Intn(1+r.Intn(3600)), 1+r.Intn(2*b.Each), 1+r.Intn(6*b.Each)
	for range r.Intn(api.CallerCalls + 1) {
		calls = append(calls, call(min(at, 3599), r.Intn(patient), 1+r.Intn(api.CallerHear), r.Intn(len(b.Shares))))
		at += r.Intn(apart)
	}
	return calls
}

// limits are valid books at the limits.
func limits() []api.CallerBook {
	long := api.CallerBook{Each: 60, Fee: 100, Rate: 100, Unit: 600, Shares: []int{100, 0, 100, 0}, Hours: slices.Repeat([][]api.CallerCall{slices.Repeat([]api.CallerCall{call(3599, 3600, 5, 3)}, 12)}, 5)}
	dear := copied(long)
	dear.Unit, dear.Hours[2] = 1, slices.Repeat([]api.CallerCall{call(3541, 3600, 5, 0)}, 12)
	short := api.CallerBook{Each: 1, Unit: 1, Shares: []int{0}, Hours: [][]api.CallerCall{slices.Repeat([]api.CallerCall{call(0, 0, 1, 0)}, 12)}}
	return []api.CallerBook{given(), long, dear, short, hourOf(), hourOf(call(0, 0, 1, 1)), having(nil, nil, nil, nil, []api.CallerCall{call(3599, 0, 5, 1)})}
}

// odd is a book in whose hour a second channel is not for everybody's good.
func odd() api.CallerBook {
	return hourOf(call(0, 0, 2, 0), call(5, 30, 1, 0), call(18, 4, 5, 0), call(24, 5, 5, 0), call(31, 9, 1, 0))
}

// serve is what Serve returns, which must not be an error.
func serve(t *testing.T, b api.CallerBook, hour, channels int) []api.CallerServed {
	t.Helper()
	list, e := caller.Serve(b, hour, channels)
	if e != api.OK {
		t.Errorf("Serve: %d", e)
	}
	return list
}
