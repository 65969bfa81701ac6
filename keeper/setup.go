package keeper

import (
	"remontoir/api"
	"remontoir/caller"
	"remontoir/dial"
	"remontoir/line"
	"remontoir/slave"
	"remontoir/star"
	"remontoir/voice"
)

// mostEach is the greatest number by which the seconds of announcements are divided.
const mostEach = 60

// setup is one of a desk, or one that is checked.
type setup struct{ api.KeeperSetup }

func (s setup) isValid() bool {
	return s.hasPlaces() && s.hasNet() && s.hasStars() && s.hasVoice() && s.hasSlaves() && s.hasPrices()
}

// hasPlaces reports whether the calendar, the places and their towns are valid.
func (s setup) hasPlaces() bool {
	if dial.Check(s.Calendar) != api.OK || !within(len(s.Places), 1, api.CallerPlaces) || !areNames(s.Places, len(s.Towns)) {
		return false
	}
	for _, t := range s.Towns {
		if dial.CheckTown(s.Calendar, t) != api.OK {
			return false
		}
	}
	return true
}

func (s setup) hasNet() bool {
	return s.Net.Exchanges == len(s.Places)+1 && line.Check(s.Net) == api.OK
}

func (s setup) hasStars() bool {
	return len(s.Stars.Looks) == 0 && star.Check(s.Stars) == api.OK &&
		areNames(s.People, len(s.Stars.People)) && areNames(s.Paths, len(s.Stars.Paths))
}

func (s setup) hasVoice() bool {
	return voice.Check(s.Voice) == api.OK && within(s.Each, 1, mostEach)
}

func (s setup) hasSlaves() bool {
	return len(s.Slaves.Events) == 0 && slave.Check(s.Slaves) == api.OK && areNames(s.Clocks, len(s.Slaves.Starts))
}

func (s setup) hasPrices() bool {
	return len(s.Prices.Hours) == 0 && len(s.Prices.Shares) == len(s.Places) && caller.Check(s.hour(nil)) == api.OK
}

// hour returns the book of the prices with one hour, of these calls.
func (s setup) hour(calls []api.CallerCall) api.CallerBook {
	b := s.Prices
	b.Hours = [][]api.CallerCall{calls[:len(calls):len(calls)]}
	return b
}

// exchangeOf returns the exchange that a place is; the house is the exchange before the first one.
func exchangeOf(place int) int { return place + 1 }

// copied returns a valid setup that shares no memory with this one.
func (s setup) copied() setup {
	s.Calendar.Decrees = copied(s.Calendar.Decrees)
	s.Places, s.People, s.Paths, s.Clocks = copied(s.Places), copied(s.People), copied(s.Paths), copied(s.Clocks)
	s.Towns = copied(s.Towns)
	for i := range s.Towns {
		s.Towns[i].Changes = copied(s.Towns[i].Changes)
	}
	s.Net.Lines, s.Net.Loops = copied(s.Net.Lines), copied(s.Net.Loops)
	s.Stars.People, s.Stars.Paths, s.Stars.Looks = copied(s.Stars.People), copied(s.Stars.Paths), nil
	s.Voice.Discs, s.Voice.Pieces = copied(s.Voice.Discs), copied(s.Voice.Pieces)
	for i := range s.Voice.Pieces {
		s.Voice.Pieces[i].Words = copied(s.Voice.Pieces[i].Words)
	}
	s.Slaves.Starts, s.Slaves.Events = copied(s.Slaves.Starts), nil
	s.Prices.Shares, s.Prices.Hours = copied(s.Prices.Shares), nil
	return s
}
