package keeper

import (
	"slices"

	"remontoir/api"
	"remontoir/slave"
	"remontoir/star"
)

// shares are what all places got.
type shares [api.CallerPlaces]int

// kept is what a desk has. Its lists are never written into, so that a copy of it still is what the desk had before.
type kept struct {
	setup             setup
	tick, sign, since int
	looks             []api.StarLook
	events            []api.SlaveEvent
	calls             []api.CallerCall
	got               shares
	house             int
	journal           []string
}

// isOne reports whether New or Open returned a desk.
func (d *Desk) isOne() bool { return d != nil && d.self == d }

// has returns what a desk has: nothing, if neither New nor Open returned it.
func (d *Desk) has() kept {
	if !d.isOne() {
		return kept{}
	}
	return d.kept
}

// stars returns the book of the stars with these looks.
func (k kept) stars(looks []api.StarLook) api.StarBook {
	b := k.setup.Stars
	b.Looks = looks[:len(looks):len(looks)]
	return b
}

// slaves returns the line with these events.
func (k kept) slaves(events []api.SlaveEvent) api.SlaveLine {
	l := k.setup.Slaves
	l.Events = events[:len(events):len(events)]
	return l
}

// hour returns the book of the prices with one hour: the calls.
func (k kept) hour() api.CallerBook { return k.setup.hour(k.calls) }

// canBeTrue reports whether the book of the stars could be true with one look more. One that is there already says nothing new.
func (k kept) canBeTrue(l api.StarLook) bool {
	if slices.Contains(k.looks, l) {
		return true
	}
	_, e := star.Offset(k.stars(with(k.looks, l)), l.Night)
	return e == api.OK
}

// canBeSo reports whether a slave clock could be as the events say with one look at it more.
func (k kept) canBeSo(look api.SlaveEvent) bool {
	_, e := slave.Can(k.slaves(with(k.events, look)), look.Who)
	return e == api.OK
}

// receive adds what calls paid to what the places and the house got.
func (k *kept) receive(places []int, house int) {
	var paid shares
	copy(paid[:], places)
	k.house += house
	if paid == (shares{}) { // all gave up, or are from places without a share
		return
	}
	for place := range paid {
		k.got[place] += paid[place]
	}
}
