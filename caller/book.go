package caller

import (
	"cmp"
	"slices"

	"remontoir/api"
)

// The numbers that have bounds.
const (
	boundEach = iota
	boundFee
	boundUnit
	boundShare
	boundAt
	boundWait
	boundHear
	boundChannels
)

// bounds are from what to what each of these numbers is.
var bounds = [...]api.Span{
	boundEach:     {Low: 1, High: api.CallerEach},
	boundFee:      {Low: 0, High: api.CallerFee},
	boundUnit:     {Low: 1, High: api.CallerUnit},
	boundShare:    {Low: 0, High: api.CallerShare},
	boundAt:       {Low: 0, High: api.CallerSecond},
	boundWait:     {Low: 0, High: api.CallerWait},
	boundHear:     {Low: 1, High: api.CallerHear},
	boundChannels: {Low: 1, High: api.CallerChannels},
}

// book is a valid book.
type book struct{ api.CallerBook }

// newBook returns a book in the calculation, or ErrCaller.
func newBook(b api.CallerBook) (book, api.Errno) {
	x := book{b}
	if !x.hasPrices() || !x.hasShares() || !x.hasHours() {
		return book{}, api.ErrCaller
	}
	return x, api.OK
}

func (b book) hasPrices() bool {
	return isIn(b.Each, bounds[boundEach]) && isIn(b.Fee, bounds[boundFee]) &&
		isIn(b.Rate, bounds[boundFee]) && isIn(b.Unit, bounds[boundUnit])
}

func (b book) hasShares() bool {
	return len(b.Shares) > 0 && areAll(b.Shares, api.CallerPlaces, isShare)
}

func (b book) hasHours() bool {
	return len(b.Hours) > 0 && areAll(b.Hours, api.CallerHours, b.isHour)
}

func isShare(n int) bool { return isIn(n, bounds[boundShare]) }

func (b book) isHour(calls []api.CallerCall) bool {
	return areAll(calls, api.CallerCalls, b.isCall) && slices.IsSortedFunc(calls, byAt)
}

func (b book) isCall(c api.CallerCall) bool {
	return isIn(c.At, bounds[boundAt]) && isIn(c.Wait, bounds[boundWait]) &&
		isIn(c.Hear, bounds[boundHear]) && isNumber(c.From, len(b.Shares))
}

func byAt(a, b api.CallerCall) int { return cmp.Compare(a.At, b.At) }

// isEnough reports whether no call of any hour is given up on so many channels.
func (b book) isEnough(channels int) bool {
	for number := range b.Hours {
		if len(hour{b, number}.serve(channels).lost()) > 0 {
			return false
		}
	}
	return true
}

// fewest returns the least number of channels that is enough; as many as there are calls always are.
func fewest(isEnough func(int) bool) int {
	var from func(int) int
	from = func(channels int) int {
		if isEnough(channels) {
			return channels
		}
		return from(channels + 1)
	}
	return from(1)
}
