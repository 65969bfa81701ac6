package caller_test

import (
	"math"
	"slices"
	"testing"

	"remontoir/api"
	"remontoir/caller"
)

// changed is the book of the chapter with one change.
func changed(change func(b *api.CallerBook)) api.CallerBook {
	b := given()
	change(&b)
	return b
}

// numbers are some that are not from one number to another one.
func numbers(low, high int) map[string]int {
	return map[string]int{"one less": low - 1, "one more": high + 1, "all": math.MaxInt, "the least": math.MinInt, "far behind": 1 << 32, "far below": -1 << 32}
}

// wrongBooks are books that are not valid, each by one thing.
func wrongBooks() map[string]api.CallerBook {
	list := map[string]api.CallerBook{"none": {}, "no hours": having()}
	put := func(name string, change func(b *api.CallerBook)) { list[name] = changed(change) }
	put("no shares", func(b *api.CallerBook) { b.Shares = nil })
	put("no shares left", func(b *api.CallerBook) { b.Shares, b.Hours = b.Shares[:0], b.Hours[:1] })
	put("no shares and no calls", func(b *api.CallerBook) { b.Shares, b.Hours = nil, [][]api.CallerCall{nil} })
	put("a share too few", func(b *api.CallerBook) { b.Shares = b.Shares[:1] })
	put("5 shares", func(b *api.CallerBook) { b.Shares = make([]int, 5) })
	put("no hours left", func(b *api.CallerBook) { b.Hours = b.Hours[:0] })
	put("6 hours", func(b *api.CallerBook) { b.Hours = make([][]api.CallerCall, 6) })
	put("13 calls first", func(b *api.CallerBook) { b.Hours[0] = slices.Repeat([]api.CallerCall{call(0, 0, 1, 0)}, 13) })
	put("13 calls last", func(b *api.CallerBook) { b.Hours[1] = slices.Repeat([]api.CallerCall{call(9, 9, 1, 1)}, 13) })
	put("a call before the first one", func(b *api.CallerBook) { b.Hours[0][1].At = 2 })
	put("a call before the last one", func(b *api.CallerBook) { b.Hours[0][2].At = 16 })
	put("a call before one of the other hour", func(b *api.CallerBook) { b.Hours[1][0].At = 1 })
	for name, no := range numbers(1, 60) {
		put("each: "+name, func(b *api.CallerBook) { b.Each = no })
	}
	for name, no := range numbers(1, 600) {
		put("unit: "+name, func(b *api.CallerBook) { b.Unit = no })
	}
	for name, no := range numbers(0, 100) {
		put("fee: "+name, func(b *api.CallerBook) { b.Fee = no })
		put("rate: "+name, func(b *api.CallerBook) { b.Rate = no })
		put("share first: "+name, func(b *api.CallerBook) { b.Shares[0] = no })
		put("share last: "+name, func(b *api.CallerBook) { b.Shares[1] = no })
	}
	putCalls(put)
	return list
}

// putCalls puts books of which one call is wrong.
func putCalls(put func(string, func(*api.CallerBook))) {
	for name, no := range numbers(0, 3599) {
		put("at alone: "+name, func(b *api.CallerBook) { b.Hours[1] = []api.CallerCall{call(no, 0, 1, 0)} })
		put("at last: "+name, func(b *api.CallerBook) { b.Hours[0][3].At = no })
	}
	for name, no := range numbers(0, 3600) {
		put("wait first: "+name, func(b *api.CallerBook) { b.Hours[0][0].Wait = no })
		put("wait last: "+name, func(b *api.CallerBook) { b.Hours[1][1].Wait = no })
	}
	for name, no := range numbers(1, 5) {
		put("hear first: "+name, func(b *api.CallerBook) { b.Hours[0][0].Hear = no })
		put("hear last: "+name, func(b *api.CallerBook) { b.Hours[1][1].Hear = no })
	}
	for name, no := range numbers(0, 1) {
		put("from first: "+name, func(b *api.CallerBook) { b.Hours[0][0].From = no })
		put("from last: "+name, func(b *api.CallerBook) { b.Hours[1][1].From = no })
	}
}

// asked is what one of the functions tells: its numbers, one after the other.
type asked struct {
	name string
	told []int
	e    api.Errno
}

// aboutChannels are the calls that fail if there is no such hour, or no such number of channels.
func aboutChannels(b api.CallerBook, hour, channels int) []asked {
	list, e1 := caller.Serve(b, hour, channels)
	lost, e2 := caller.Lost(b, hour, channels)
	places, house, e3 := caller.Pay(b, hour, channels)
	return []asked{{"Serve", []int{len(list)}, e1}, {"Lost", append(lost, len(lost)), e2}, {"Pay", append(places, len(places), house), e3}}
}

// aboutBusy is the call that fails if nobody is joined.
func aboutBusy(b api.CallerBook, hour, channels int) []asked {
	many, at, e := caller.Busy(b, hour, channels)
	return []asked{{"Busy", []int{many, at}, e}}
}

// aboutCall is the call about one who calls.
func aboutCall(b api.CallerBook, hour, channels, number int) []asked {
	s, e := caller.Heard(b, hour, channels, number)
	return []asked{{"Heard", []int{s.Low, s.High}, e}}
}

// aboutMore is the call that fails on as many channels as there can be.
func aboutMore(b api.CallerBook, hour, channels int) []asked {
	better, worse, e := caller.Change(b, hour, channels)
	return []asked{{"Change", slices.Concat(better, worse, []int{len(better), len(worse)}), e}}
}

// aboutHour is the call that fails only if there is no such hour.
func aboutHour(b api.CallerBook, hour, joined, seconds int) []asked {
	list, e := caller.Which(b, hour, joined, seconds)
	return []asked{{"Which", append(list, len(list)), e}}
}

// aboutAll are all calls about an hour.
func aboutAll(b api.CallerBook, hour, channels, number int) []asked {
	return slices.Concat(aboutChannels(b, hour, channels), aboutBusy(b, hour, channels), aboutCall(b, hour, channels, number), aboutMore(b, hour, channels))
}

// checkErrors asks for an error of all calls, and for zero values with it.
func checkErrors(t *testing.T, where string, e api.Errno, calls ...[]asked) {
	t.Helper()
	for _, a := range slices.Concat(calls...) {
		if a.e != e || slices.ContainsFunc(a.told, func(n int) bool { return n != 0 }) {
			t.Errorf("%s: %s: %v, %d instead of %d", where, a.name, a.told, a.e, e)
		}
	}
}

// P9.1: which books are valid.
func TestCheck(t *testing.T) {
	for name, b := range wrongBooks() {
		if e := caller.Check(b); e != api.ErrCaller {
			t.Errorf("%s: %d", name, e)
		}
	}
	for i, b := range slices.Concat(limits(), drawn(300)) {
		if e := caller.Check(b); e != api.OK {
			t.Errorf("the valid book %d: %d", i, e)
		}
	}
}

// P9.1, P1: all functions return ErrCaller first, also where every other error applies, and zero values with it.
func TestWrongBookFirst(t *testing.T) {
	for name, b := range wrongBooks() {
		n, e := caller.Fewest(b)
		checkErrors(t, name, api.ErrCaller, []asked{{"Fewest", []int{n}, e}})
		for _, hour := range []int{-1, 0, 1, 2} {
			for _, channels := range []int{0, 1, 20, 21} {
				checkErrors(t, name, api.ErrCaller, aboutAll(b, hour, channels, 0), aboutAll(b, hour, channels, -1), aboutHour(b, hour, 2, 47))
			}
		}
	}
}

// P9.1, P9.5, P9.7, P9.8: questions about hours, channels and calls that are none.
func TestWrongQuestions(t *testing.T) {
	for name, no := range numbers(0, 1) {
		checkErrors(t, "the hour "+name, api.ErrCallerAsk, aboutAll(given(), no, 1, 0), aboutAll(given(), no, 20, 9), aboutHour(given(), no, 2, 47), aboutHour(given(), no, 0, 0))
	}
	for name, no := range numbers(1, 20) {
		checkErrors(t, "the channels "+name, api.ErrCallerAsk, aboutAll(given(), 0, no, 0), aboutAll(hourOf(), 0, no, 0))
		checkErrors(t, "both "+name, api.ErrCallerAsk, aboutAll(given(), 2, no, 2))
	}
	for name, no := range numbers(0, 3) {
		checkErrors(t, "the call "+name, api.ErrCallerAsk, aboutCall(given(), 0, 2, no))
	}
	for _, no := range []int{-1, 0, 1, math.MaxInt} {
		checkErrors(t, "no calls", api.ErrCallerAsk, aboutCall(hourOf(), 0, 2, no))
	}
	checkErrors(t, "a call of the other hour", api.ErrCallerAsk, aboutCall(given(), 1, 2, 2))
	checkErrors(t, "21 channels", api.ErrCallerAsk, aboutMore(given(), 0, 20), aboutMore(hourOf(), 0, 20))
	checkErrors(t, "a call that is given up", api.ErrNone, aboutCall(given(), 0, 2, 2), aboutCall(given(), 0, 1, 1), aboutCall(given(), 1, 1, 1))
	checkErrors(t, "nobody calls", api.ErrNone, aboutBusy(hourOf(), 0, 1), aboutBusy(hourOf(), 0, 20), aboutBusy(having(nil, []api.CallerCall{call(0, 0, 1, 0)}), 0, 3))
}

// P9.2: the chapter's examples, and times at the edges.
func TestServe(t *testing.T) {
	two := hourOf(call(0, 0, 2, 0), call(0, 0, 1, 0), call(4, 9, 1, 0), call(4, 20, 1, 0), call(20, 0, 1, 0))
	for i, x := range []struct {
		b              api.CallerBook
		hour, channels int
		want           []api.CallerServed
		lost           []int
	}{
		{given(), 0, 1, []api.CallerServed{joined(3, 30, 0), givenUp(25), givenUp(16), joined(30, 50, 0)}, []int{1, 2}}, {given(), 0, 2, []api.CallerServed{joined(3, 30, 0), joined(5, 20, 1), givenUp(16), joined(20, 40, 1)}, []int{2}}, {given(), 0, 3, []api.CallerServed{joined(3, 30, 0), joined(5, 20, 1), joined(12, 30, 2), joined(20, 40, 1)}, nil}, {given(), 0, 4, []api.CallerServed{joined(3, 30, 0), joined(5, 20, 1), joined(12, 30, 2), joined(15, 40, 3)}, nil},
		{given(), 1, 1, []api.CallerServed{joined(0, 10, 0), givenUp(0)}, []int{1}}, {given(), 1, 20, []api.CallerServed{joined(0, 10, 0), joined(0, 10, 1)}, nil}, {hourOf(), 0, 1, nil, nil},
		{odd(), 0, 1, []api.CallerServed{joined(0, 20, 0), joined(20, 30, 0), givenUp(22), givenUp(29), joined(31, 50, 0)}, []int{2, 3}}, {odd(), 0, 2, []api.CallerServed{joined(0, 20, 0), joined(5, 20, 1), joined(20, 70, 0), joined(24, 80, 1), givenUp(40)}, []int{4}},
		// until the very second of the wait, and the very second of the end
		{hourOf(call(0, 0, 2, 0), call(1, 19, 1, 0)), 0, 1, []api.CallerServed{joined(0, 20, 0), joined(20, 30, 0)}, nil}, {hourOf(call(0, 0, 2, 0), call(1, 18, 1, 0)), 0, 1, []api.CallerServed{joined(0, 20, 0), givenUp(19)}, []int{1}}, {hourOf(call(0, 0, 1, 0), call(10, 0, 1, 0)), 0, 1, []api.CallerServed{joined(0, 10, 0), joined(10, 20, 0)}, nil}, {hourOf(call(0, 0, 1, 0), call(9, 0, 1, 0)), 0, 1, []api.CallerServed{joined(0, 10, 0), givenUp(9)}, []int{1}},
		// just when an announcement begins, and a second later
		{hourOf(call(10, 0, 1, 0)), 0, 1, []api.CallerServed{joined(10, 20, 0)}, nil}, {hourOf(call(11, 0, 1, 0)), 0, 1, []api.CallerServed{joined(11, 30, 0)}, nil}, {hourOf(call(19, 0, 5, 0)), 0, 1, []api.CallerServed{joined(19, 70, 0)}, nil}, {hourOf(call(3599, 0, 1, 0)), 0, 1, []api.CallerServed{joined(3599, 3610, 0)}, nil},
		// the channel that is free sooner, even if it has the greater number, and of two that are free the one with the lesser number; one who gives up takes none
		{two, 0, 2, []api.CallerServed{joined(0, 20, 0), joined(0, 10, 1), joined(10, 20, 1), joined(20, 30, 0), joined(20, 30, 1)}, nil}, {two, 0, 1, []api.CallerServed{joined(0, 20, 0), givenUp(0), givenUp(13), joined(20, 30, 0), givenUp(20)}, []int{1, 2, 4}}, {hourOf(call(0, 0, 5, 0), call(1, 5, 1, 0), call(2, 5, 1, 0), call(3, 60, 1, 0)), 0, 1, []api.CallerServed{joined(0, 50, 0), givenUp(6), givenUp(7), joined(50, 60, 0)}, []int{1, 2}},
	} {
		if list, e := caller.Serve(x.b, x.hour, x.channels); !slices.Equal(list, x.want) || e != api.OK || !slices.Equal(served(x.b, x.hour, x.channels), x.want) {
			t.Errorf("Serve %d: %v, %d", i, list, e)
		}
		if list, e := caller.Lost(x.b, x.hour, x.channels); !slices.Equal(list, x.lost) || e != api.OK {
			t.Errorf("Lost %d: %v, %d", i, list, e)
		}
	}
}

// P9.3: how few channels are enough for all hours.
func TestFewest(t *testing.T) {
	for i, x := range []struct {
		b    api.CallerBook
		want int
	}{
		{given(), 3}, {having(given().Hours[1]), 2}, {having(given().Hours[0]), 3}, {hourOf(), 1}, {having(nil, nil), 1}, {hourOf(call(3, 0, 5, 0)), 1}, {odd(), 3}, {hourOf(slices.Repeat([]api.CallerCall{call(7, 0, 1, 0)}, 12)...), 12}, {hourOf(slices.Repeat([]api.CallerCall{call(7, 3600, 5, 0)}, 12)...), 1}, {hourOf(call(0, 0, 1, 0), call(10, 0, 1, 0)), 1}, {hourOf(call(0, 0, 1, 0), call(9, 0, 1, 0)), 2},
		{having(given().Hours[1], odd().Hours[0], nil, []api.CallerCall{call(0, 0, 1, 0)}), 3}, {having(nil, slices.Repeat([]api.CallerCall{call(7, 0, 1, 0)}, 4), odd().Hours[0]), 4}, {having(odd().Hours[0], nil, slices.Repeat([]api.CallerCall{call(7, 0, 1, 0)}, 4)), 4},
	} {
		if n, e := caller.Fewest(x.b); n != x.want || e != api.OK || n != fewestOf(x.b) {
			t.Errorf("Fewest %d: %d, %d", i, n, e)
		}
	}
}

// P9.4: how many are joined at one time, and when first.
func TestBusy(t *testing.T) {
	calm := hourOf(call(5, 0, 1, 0), call(20, 0, 1, 0), call(25, 0, 1, 0), call(40, 0, 1, 0), call(41, 0, 1, 0))
	for i, x := range []struct {
		b                        api.CallerBook
		hour, channels, many, at int
	}{
		{given(), 0, 1, 1, 3}, {given(), 0, 2, 2, 5}, {given(), 0, 3, 3, 12}, {given(), 0, 4, 4, 15}, {given(), 0, 20, 4, 15}, {given(), 1, 1, 1, 0}, {given(), 1, 2, 2, 0},
		// the first one of several times; who ends is not there any more
		{calm, 0, 1, 1, 5}, {calm, 0, 2, 2, 25}, {calm, 0, 20, 2, 25}, {hourOf(call(0, 0, 1, 0), call(10, 0, 1, 0)), 0, 5, 1, 0}, {hourOf(call(0, 0, 1, 0), call(9, 0, 1, 0)), 0, 5, 2, 9}, {hourOf(call(3599, 0, 1, 0)), 0, 5, 1, 3599},
		// those who give up are not there
		{hourOf(slices.Repeat([]api.CallerCall{call(7, 5, 1, 0)}, 12)...), 0, 5, 5, 7},
	} {
		if n, at, e := caller.Busy(x.b, x.hour, x.channels); n != x.many || at != x.at || e != api.OK {
			t.Errorf("Busy %d: %d, %d, %d", i, n, at, e)
		}
	}
}

// P9.5: which whole announcements are heard.
func TestHeard(t *testing.T) {
	edge := hourOf(call(10, 0, 3, 0), call(11, 0, 1, 0), call(19, 0, 5, 0), call(3599, 9, 2, 0))
	for i, x := range []struct {
		b                    api.CallerBook
		hour, channels, call int
		want                 api.Span
	}{
		{given(), 0, 2, 0, to(10, 20)}, {given(), 0, 2, 1, to(10, 10)}, {given(), 0, 2, 3, to(20, 30)}, {given(), 0, 1, 3, to(30, 40)}, {given(), 0, 3, 2, to(20, 20)}, {given(), 1, 1, 0, to(0, 0)}, {given(), 1, 2, 1, to(0, 0)},
		{edge, 0, 9, 0, to(10, 30)}, {edge, 0, 9, 1, to(20, 20)}, {edge, 0, 9, 2, to(20, 60)}, {edge, 0, 9, 3, to(3600, 3610)},
	} {
		if s, e := caller.Heard(x.b, x.hour, x.channels, x.call); s != x.want || e != api.OK {
			t.Errorf("Heard %d: %v, %d", i, s, e)
		}
	}
}

// priced is the book of the chapter with other prices and shares.
func priced(fee, rate, unit int, shares ...int) api.CallerBook {
	b := given()
	b.Fee, b.Rate, b.Unit, b.Shares = fee, rate, unit, shares
	return b
}

// P9.6: what is paid, and who gets it.
func TestPay(t *testing.T) {
	for i, x := range []struct {
		b              api.CallerBook
		hour, channels int
		places         []int
		house          int
	}{
		{given(), 0, 1, []int{2, 1}, 7}, {given(), 0, 2, []int{2, 2}, 11}, {given(), 0, 3, []int{4, 2}, 14}, {given(), 1, 2, []int{4, 0}, 6}, {hourOf(), 0, 2, []int{0, 0}, 0},
		// 27, 15 and 20 seconds
		{priced(7, 1, 7, 40, 25), 0, 2, []int{4, 4}, 23}, {priced(0, 1, 5, 100, 100), 0, 2, []int{6, 7}, 0}, {priced(0, 1, 27, 100, 100), 0, 2, []int{1, 2}, 0}, {priced(0, 1, 26, 100, 100), 0, 2, []int{2, 2}, 0}, {priced(0, 1, 1, 100, 100), 0, 2, []int{27, 35}, 0}, {priced(5, 0, 1, 100, 100), 0, 2, []int{5, 10}, 0}, {priced(2, 3, 30, 0, 0), 0, 2, []int{0, 0}, 15}, {priced(0, 0, 1, 100, 50), 0, 2, []int{0, 0}, 0},
		// each call is rounded for itself; an exchange from which nobody calls gets nothing
		{priced(3, 0, 1, 33, 33), 1, 2, []int{0, 0}, 6}, {priced(3, 0, 1, 34, 33), 1, 2, []int{2, 0}, 4}, {priced(100, 0, 1, 99, 1, 50, 100), 0, 2, []int{99, 2, 0, 0}, 199},
		{limits()[1], 4, 20, []int{0, 0, 0, 0}, 2400}, {limits()[2], 2, 20, []int{12 * (100 + 100*359), 0, 0, 0}, 0},
	} {
		if list, house, e := caller.Pay(x.b, x.hour, x.channels); !slices.Equal(list, x.places) || house != x.house || e != api.OK {
			t.Errorf("Pay %d: %v, %d, %d", i, list, house, e)
		}
	}
}

// P9.7: who gains and who loses by one more channel.
func TestChange(t *testing.T) {
	patient := odd() // the last one waits for longer, and only loses time
	patient.Hours[0][4].Wait = 60
	for i, x := range []struct {
		b              api.CallerBook
		hour, channels int
		better, worse  []int
	}{
		{given(), 0, 1, []int{1, 3}, nil}, {given(), 0, 2, []int{2}, nil}, {given(), 0, 3, []int{3}, nil}, {given(), 0, 4, nil, nil}, {given(), 0, 19, nil, nil}, {given(), 1, 1, []int{1}, nil}, {given(), 1, 2, nil, nil}, {hourOf(), 0, 1, nil, nil},
		{odd(), 0, 1, []int{1, 2, 3}, []int{4}}, {odd(), 0, 2, []int{2, 4}, nil}, {odd(), 0, 3, nil, nil}, {patient, 0, 1, []int{1, 2, 3}, []int{4}}, {patient, 0, 2, []int{2, 4}, nil},
	} {
		better, worse, e := caller.Change(x.b, x.hour, x.channels)
		if !slices.Equal(better, x.better) || !slices.Equal(worse, x.worse) || e != api.OK {
			t.Errorf("Change %d: %v, %v, %d", i, better, worse, e)
		}
	}
}

// P9.8: which numbers of channels fit; any numbers can be asked about.
func TestWhich(t *testing.T) {
	var all []int
	for i := range 20 {
		all = append(all, i+1)
	}
	for i, x := range []struct {
		b                     api.CallerBook
		hour, joined, seconds int
		want                  []int
	}{
		{given(), 0, 2, 47, all[:1]}, {given(), 0, 3, 62, all[1:2]}, {given(), 0, 4, 80, all[2:3]}, {given(), 0, 4, 85, all[3:]}, {given(), 1, 1, 10, all[:1]}, {given(), 1, 2, 20, all[1:]}, {hourOf(), 0, 0, 0, all}, {hourOf(call(1, 0, 1, 0)), 0, 1, 19, all},
		{given(), 0, 3, 80, nil}, {given(), 0, 4, 81, nil}, {given(), 0, 4, 62, nil}, {given(), 0, 0, 0, nil}, {given(), 0, -1, -1, nil}, {given(), 0, math.MaxInt, math.MinInt, nil}, {given(), 0, math.MinInt, math.MaxInt, nil}, {hourOf(), 0, 0, 1, nil}, {hourOf(), 0, -1, 0, nil},
	} {
		if list, e := caller.Which(x.b, x.hour, x.joined, x.seconds); !slices.Equal(list, x.want) || e != api.OK {
			t.Errorf("Which %d: %v, %d", i, list, e)
		}
	}
}
