package caller_test

import (
	"math"
	"math/rand"
	"reflect"
	"slices"
	"testing"

	"remontoir/api"
	"remontoir/caller"
)

// checkServed compares with the model how an hour is served, who is given up, and when most are joined.
func checkServed(t *testing.T, where string, b api.CallerBook, hour, channels int) []api.CallerServed {
	t.Helper()
	want := served(b, hour, channels)
	if list := serve(t, b, hour, channels); !slices.Equal(list, want) {
		t.Errorf("%s: Serve of %v on %d: %v instead of %v", where, b.Hours[hour], channels, list, want)
	}
	if list, e := caller.Lost(b, hour, channels); !slices.Equal(list, lostOf(want)) || e != api.OK {
		t.Errorf("%s: Lost of %v on %d: %v, %d", where, b.Hours[hour], channels, list, e)
	}
	many, at := busyOf(want)
	if many == 0 {
		checkErrors(t, where, api.ErrNone, aboutBusy(b, hour, channels))
	} else if n, first, e := caller.Busy(b, hour, channels); n != many || first != at || e != api.OK {
		t.Errorf("%s: Busy of %v on %d: %d, %d, %d instead of %d, %d", where, b.Hours[hour], channels, n, first, e, many, at)
	}
	return want
}

// checkCoins compares with the model what is paid.
func checkCoins(t *testing.T, where string, b api.CallerBook, hour, channels int, want []api.CallerServed) {
	t.Helper()
	places, house := paidOf(b, hour, want)
	if list, n, e := caller.Pay(b, hour, channels); !slices.Equal(list, places) || n != house || e != api.OK {
		t.Errorf("%s: Pay of %v on %d: %v, %d, %d instead of %v, %d", where, b, channels, list, n, e, places, house)
	}
}

// checkChange compares with the model what one more channel changes.
func checkChange(t *testing.T, where string, b api.CallerBook, hour, channels int) {
	t.Helper()
	if channels == api.CallerChannels {
		checkErrors(t, where, api.ErrCallerAsk, aboutMore(b, hour, channels))
		return
	}
	better, worse := changeOf(served(b, hour, channels), served(b, hour, channels+1))
	if list, other, e := caller.Change(b, hour, channels); !slices.Equal(list, better) || !slices.Equal(other, worse) || e != api.OK {
		t.Errorf("%s: Change of %v on %d: %v, %v, %d instead of %v, %v", where, b.Hours[hour], channels, list, other, e, better, worse)
	}
}

// checkHeard compares with the model what each call hears.
func checkHeard(t *testing.T, where string, b api.CallerBook, hour, channels int, want []api.CallerServed) {
	t.Helper()
	for i, s := range want {
		if s.Joined < 0 {
			checkErrors(t, where, api.ErrNone, aboutCall(b, hour, channels, i))
			continue
		}
		first := s.Joined
		for first%b.Each != 0 {
			first++
		}
		if h, e := caller.Heard(b, hour, channels, i); h != to(first, s.Left-b.Each) || e != api.OK {
			t.Errorf("%s: Heard of %d of %v on %d: %v, %d", where, i, b.Hours[hour], channels, h, e)
		}
	}
}

// P9.2, P9.4: of small books all are asked about.
func TestSmallBooks(t *testing.T) {
	var lost, waited, busy int
	for b := range small {
		for channels := 1; channels <= 3; channels++ {
			want := checkServed(t, "a small book", b, 0, channels)
			lost += len(lostOf(want))
			for i, s := range want {
				waited += number(s.Joined > b.Hours[0][i].At)
			}
			many, _ := busyOf(want)
			busy += number(many > 1)
		}
		if t.Failed() {
			return
		}
	}
	if min(lost, waited, busy) < 10000 {
		t.Errorf("%d are given up, %d wait, and in %d hours several are joined: too few to tell something", lost, waited, busy)
	}
}

// P9.2, P9.4 to P9.7: books of all sizes.
func TestManyBooks(t *testing.T) {
	lost, more := 0, 0
	for _, b := range slices.Concat(limits(), drawn(300)) {
		for hour := range b.Hours {
			for _, channels := range []int{1, 2, 3, 4, 6, 19, 20} {
				want := checkServed(t, "a book", b, hour, channels)
				checkCoins(t, "a book", b, hour, channels, want)
				checkChange(t, "a book", b, hour, channels)
				checkHeard(t, "a book", b, hour, channels, want)
				lost += len(lostOf(want))
				for _, s := range want {
					more += number(s.Channel > 1)
				}
			}
		}
	}
	if min(lost, more) < 1000 {
		t.Errorf("%d are given up, and %d are on a third channel: too few to tell something", lost, more)
	}
}

// P9.3, P9.12: on as many channels as are told no call is given up, on one less some call is.
func TestTheFewest(t *testing.T) {
	several, one := 0, 0
	for i, b := range slices.Concat(limits(), drawn(500)) {
		n, e := caller.Fewest(b)
		if e != api.OK || n != fewestOf(b) {
			t.Errorf("book %d: Fewest: %d, %d instead of %d", i, n, e, fewestOf(b))
		}
		lost := func(channels int) int {
			all := 0
			for hour := range b.Hours {
				all += len(lostOf(serve(t, b, hour, channels)))
			}
			return all
		}
		if lost(n) > 0 || n > 1 && lost(n-1) == 0 {
			t.Errorf("book %d: %d channels are not the fewest that are enough", i, n)
		}
		several += number(n > 2)
		one += number(n == 1)
	}
	if several < 150 || one < 10 {
		t.Errorf("%d books need several channels, and %d only one: too few to tell something", several, one)
	}
}

// P9.8, P9.14: each number of channels is one of those that fit what was counted on it, and no other number is.
func TestWhichFits(t *testing.T) {
	some, others := 0, 0
	for i, b := range slices.Concat(limits(), drawn(120)) {
		for hour := range b.Hours {
			fit := map[[2]int][]int{}
			for channels := 1; channels <= 20; channels++ {
				many, seconds := countOf(served(b, hour, channels))
				fit[[2]int{many, seconds}] = append(fit[[2]int{many, seconds}], channels)
			}
			for counted, want := range fit {
				for _, by := range [][2]int{{0, 0}, {1, 0}, {-1, 0}, {0, 1}, {0, -1}} {
					many, seconds := counted[0]+by[0], counted[1]+by[1]
					if by != [2]int{} {
						want = fit[[2]int{many, seconds}]
					}
					if list, e := caller.Which(b, hour, many, seconds); !slices.Equal(list, want) || e != api.OK {
						t.Errorf("book %d: Which of the hour %d: %d, %d: %v, %d instead of %v", i, hour, many, seconds, list, e, want)
					}
				}
			}
			some += number(len(fit) > 2)
			others += number(len(fit) == 1)
		}
	}
	if min(some, others) < 30 {
		t.Errorf("%d hours that tell the channels, and %d that do not: too few to tell something", some, others)
	}
}

// P9.9, P2: arguments are not changed, results share nothing, and the same arguments have the same result.
func TestMemory(t *testing.T) {
	for i, b := range slices.Concat(limits(), drawn(60)) {
		before := copied(b)
		ask := func() ([]api.CallerServed, [][]int) {
			list, _ := caller.Serve(b, 0, 2)
			lost, _ := caller.Lost(b, 0, 2)
			places, _, _ := caller.Pay(b, 0, 2)
			better, worse, _ := caller.Change(b, 0, 2)
			many, seconds := countOf(list)
			fit, _ := caller.Which(b, 0, many, seconds)
			caller.Fewest(b)
			caller.Busy(b, 0, 2)
			caller.Heard(b, 0, 2, 0)
			return list, [][]int{lost, places, better, worse, fit}
		}
		list, told := ask()
		keptList, kept := slices.Clone(list), [][]int{}
		for _, x := range told {
			kept = append(kept, slices.Clone(x))
		}
		for k, x := range told {
			for n := range x[:cap(x)] {
				x[:cap(x)][n] = -99
			}
			for other := k + 1; other < len(told); other++ {
				if !slices.Equal(told[other], kept[other]) {
					t.Errorf("book %d: the results %d and %d share memory", i, k, other)
				}
			}
		}
		for n := range list[:cap(list)] {
			list[:cap(list)][n] = joined(-9, -9, -9)
		}
		again, toldAgain := ask()
		if !reflect.DeepEqual(b, before) || !slices.Equal(again, keptList) || !slices.EqualFunc(toldAgain, kept, slices.Equal) {
			t.Errorf("book %d: it is changed, or another result: %v, %v", i, again, toldAgain)
		}
	}
}

// R3: between nil and empty lists there is no difference.
func TestEmpty(t *testing.T) {
	none, empty := having(nil, given().Hours[1]), having([]api.CallerCall{}, given().Hours[1])
	for channels := 1; channels <= 20; channels++ {
		for hour := range 2 {
			one, other := aboutAll(none, hour, channels, 0), aboutAll(empty, hour, channels, 0)
			if !reflect.DeepEqual(one, other) {
				t.Errorf("%v and %v", one, other)
			}
		}
	}
	for _, b := range []api.CallerBook{having(), {Each: 1, Unit: 1, Shares: []int{}, Hours: [][]api.CallerCall{nil}}, {Each: 1, Unit: 1, Shares: []int{1}, Hours: [][]api.CallerCall{}}} {
		if e := caller.Check(b); e != api.ErrCaller {
			t.Errorf("%v: %d", b, e)
		}
	}
}

// P1: any arguments are answered, and soon.
func TestAnyArguments(t *testing.T) {
	sizes := []int{math.MinInt, math.MinInt + 1, -1, 0, 1, 2, 5, 12, 20, 21, 60, 100, 600, 3599, 3600, math.MaxInt - 1, math.MaxInt}
	r := rand.New(rand.NewSource(92))
	size := func() int { return sizes[r.Intn(len(sizes))] }
	valid := 0
	for range 100000 {
		b := [...]api.CallerBook{given(), {Each: 1, Unit: 1, Shares: []int{size(), size()}[:r.Intn(3)], Hours: [][]api.CallerCall{{call(size(), size(), size(), size())}}}, {Each: size(), Fee: size(), Rate: size(), Unit: size(), Shares: []int{1}, Hours: make([][]api.CallerCall, r.Intn(8))}}[r.Intn(3)]
		hour, channels, n := size(), size(), size()
		e := caller.Check(b)
		want := e
		if e == api.OK && (hour < 0 || hour >= len(b.Hours)) {
			want = api.ErrCallerAsk
		}
		checkSame(t, want, aboutHour(b, hour, n, size()))
		if e == api.OK && (channels < 1 || channels > 20) {
			want = api.ErrCallerAsk
		}
		valid += number(want == api.OK)
		checkSame(t, want, aboutChannels(b, hour, channels))
		if want != api.OK {
			checkErrors(t, "any", want, aboutAll(b, hour, channels, n))
		} else if n < 0 || n >= len(b.Hours[hour]) {
			checkErrors(t, "any", api.ErrCallerAsk, aboutCall(b, hour, channels, n))
		}
	}
	if valid < 500 {
		t.Errorf("only %d valid questions", valid)
	}
}

// checkSame asks for an error of all calls, or for none.
func checkSame(t *testing.T, e api.Errno, calls []asked) {
	t.Helper()
	for _, a := range calls {
		if a.e != e {
			t.Errorf("%s: %d instead of %d", a.name, a.e, e)
		}
	}
}

// P9.10: calls are joined in their order; no call waits while a channel is free; on no channel are two calls at once; whoever is given up found none free as long as they waited.
func TestTheTurn(t *testing.T) {
	waited, lost := 0, 0
	for i, b := range drawn(200) {
		for hour, calls := range b.Hours {
			for channels := 1; channels <= 4; channels++ {
				list, last := serve(t, b, hour, channels), 0
				for k, s := range list {
					until := s.Joined
					if s.Joined < 0 {
						until, lost = s.Left+1, lost+1
					} else if s.Joined < last || s.Left <= s.Joined || s.Channel < 0 || s.Channel >= channels {
						t.Errorf("book %d: %d is joined out of turn: %v", i, k, list)
					} else {
						last, waited = s.Joined, waited+s.Joined-calls[k].At
					}
					for now := calls[k].At; now < until; now++ {
						if firstFree(list, channels, now) >= 0 {
							t.Errorf("book %d: a channel is free at %d, when %d waits: %v", i, now, k, list)
						}
					}
				}
				checkAlone(t, i, channels, list)
			}
		}
	}
	if min(waited, lost) < 1000 {
		t.Errorf("they wait for %d seconds, and %d are given up: too few to tell something", waited, lost)
	}
}

// checkAlone looks for channels on which two calls are at once.
func checkAlone(t *testing.T, where, channels int, list []api.CallerServed) {
	t.Helper()
	for channel := range channels {
		end := 0
		for _, s := range list {
			if s.Channel == channel && s.Joined < end {
				t.Errorf("book %d: two calls are on %d at once: %v", where, channel, list)
			} else if s.Channel == channel {
				end = s.Left
			}
		}
	}
}

// P9.11: each call hears just as many whole announcements as it wants, and waits for the first one less than one takes.
func TestWholeAnnouncements(t *testing.T) {
	asked := 0
	for i, b := range slices.Concat(limits(), drawn(200)) {
		for hour, calls := range b.Hours {
			for channels := 1; channels <= 5; channels += 2 {
				for k, s := range serve(t, b, hour, channels) {
					h, e := caller.Heard(b, hour, channels, k)
					if s.Joined < 0 {
						continue
					}
					asked++
					if wait := h.Low - s.Joined; e != api.OK || wait < 0 || wait >= b.Each || h.Low%b.Each != 0 || (s.Left-h.Low) != calls[k].Hear*b.Each || h.High+b.Each != s.Left {
						t.Errorf("book %d: %v hears %v of %v, %d", i, calls[k], h, s, e)
					}
				}
			}
		}
	}
	if asked < 2000 {
		t.Errorf("only %d calls are joined", asked)
	}
}

// P9.12: if none is given up, on one more none is joined later, nor given up; otherwise some can lose by one more.
func TestOneMore(t *testing.T) {
	fine, losing := 0, 0
	for i, b := range slices.Concat([]api.CallerBook{odd(), given()}, drawn(600)) {
		for hour := range b.Hours {
			for channels := 1; channels < 20; channels++ {
				before, then := serve(t, b, hour, channels), serve(t, b, hour, channels+1)
				better, worse, e := caller.Change(b, hour, channels)
				if e != api.OK {
					t.Errorf("book %d: Change: %d", i, e)
				}
				losing += len(worse)
				if len(lostOf(before)) > 0 {
					continue
				}
				fine += len(better)
				if len(worse) > 0 || len(lostOf(then)) > 0 || slices.ContainsFunc(better, func(k int) bool { return then[k].Joined >= before[k].Joined }) {
					t.Errorf("book %d: on one more channel than %d, on which none is given up: %v, %v", i, channels, better, worse)
				}
			}
		}
	}
	if fine < 500 || losing < 50 {
		t.Errorf("%d gain where none is given up, and %d lose elsewhere: too few to tell something", fine, losing)
	}
}

// P9.13: what all get is what all calls pay; without a fee and a rate nobody pays.
func TestTheCoin(t *testing.T) {
	coins := 0
	for i, b := range slices.Concat(limits(), drawn(200)) {
		free := copied(b)
		free.Fee, free.Rate = 0, 0
		for hour := range b.Hours {
			for channels := 1; channels <= 4; channels++ {
				all := 0
				for _, s := range serve(t, b, hour, channels) {
					all += coinsOf(b, s)
				}
				coins += all
				places, house, e := caller.Pay(b, hour, channels)
				for _, n := range places {
					all -= n
				}
				if all != house || house < 0 || e != api.OK || slices.ContainsFunc(places, func(n int) bool { return n < 0 }) {
					t.Errorf("book %d: %v, %d, %d: %d are left", i, places, house, e, all-house)
				}
				if places, house, e := caller.Pay(free, hour, channels); !slices.Equal(places, make([]int, len(b.Shares))) || house != 0 || e != api.OK {
					t.Errorf("book %d: free calls pay %v, %d, %d", i, places, house, e)
				}
			}
		}
	}
	if coins < 10000 {
		t.Errorf("only %d coins", coins)
	}
}

// P9.14: no more calls are joined at one time than there are channels; on more than are ever busy nothing changes, if none is given up.
func TestBusyChannels(t *testing.T) {
	full, idle := 0, 0
	for i, b := range drawn(300) {
		for hour, calls := range b.Hours {
			for channels := 1; channels <= 20 && len(calls) > 0; channels++ {
				many, at, e := caller.Busy(b, hour, channels)
				list := serve(t, b, hour, channels)
				if e != api.OK || many < 1 || many > channels || !slices.ContainsFunc(list, func(s api.CallerServed) bool { return s.Joined == at }) {
					t.Errorf("book %d: %d are joined on %d channels, at %d, %d", i, many, channels, at, e)
				}
				full += number(many == channels)
				if many < channels && len(lostOf(list)) == 0 && channels < 20 {
					idle++
					if more := serve(t, b, hour, channels+1); !slices.Equal(more, list) {
						t.Errorf("book %d: %d of %d channels are busy, but one more changes %v to %v", i, many, channels, list, more)
					}
				}
			}
		}
	}
	if min(full, idle) < 1000 {
		t.Errorf("%d times all channels are busy, and %d times some are not: too few to tell something", full, idle)
	}
}
