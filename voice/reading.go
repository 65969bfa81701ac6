package voice

import (
	"remontoir/api"
	"remontoir/dial"
)

const (
	mostPart = 99  // the greatest hour, minute or second that has a word
	mostEach = 60  // the greatest number by which a second can be divided in a question
	oneTick  = 100 // how much time a tick has
	noPlan   = -1
)

// reading is one that is said.
type reading struct{ api.DialReading }

func (r reading) hour() int { return r.Hour }

func (r reading) minute() int { return r.Minute }

func (r reading) second() int { return r.Second }

// part is a part of a reading, and the word of 0 there.
type part struct {
	of   func(reading) int
	from int
}

// parts are those of a reading that are said, in their order.
func parts() [3]part {
	return [...]part{
		{of: reading.hour},
		{of: reading.minute, from: api.VoiceMinute},
		{of: reading.second, from: api.VoiceSecond},
	}
}

// words returns the words of a reading, or ErrVoiceAsk.
func (r reading) words() ([]int, api.Errno) {
	var list []int
	for _, p := range parts() {
		n := p.of(r)
		if !within(n, 0, mostPart) {
			return nil, api.ErrVoiceAsk
		}
		list = append(list, p.from+n)
	}
	return list[:len(list):len(list)], api.OK
}

// day is a book that says readings of a calendar, of the seconds that can be divided by a number.
type day struct {
	book
	api.DialCalendar
	each int
}

// newDay returns a day, or ErrVoiceAsk unless all can be asked about.
func newDay(b book, c api.DialCalendar, tick, each, many int) (day, api.Errno) {
	_, e := dial.Reading(c, tick)
	if e != api.OK || !within(each, 1, mostEach) || !within(many, 1, api.VoiceMany) {
		return day{}, api.ErrVoiceAsk
	}
	return day{b, c, each}, api.OK
}

// announcements returns how many pieces each of the first announcements behind a tick has.
func (d day) announcements(tick, many int) []int {
	var list []int
	for range many {
		next, e := dial.Next(d.DialCalendar, tick+1, d.each)
		if e != api.OK { // the calendar ends
			break
		}
		list = append(list, d.pieces(tick, next))
		tick = next
	}
	return list[:len(list):len(list)]
}

// pieces returns how few pieces say the reading of a tick from another tick on; noPlan, if none do.
func (d day) pieces(from, tick int) int {
	r, _ := dial.Reading(d.DialCalendar, tick) // each tick has a reading, and each reading of a calendar has words
	text, _ := reading{r}.words()
	if !areTimes(from*oneTick, tick*oneTick) {
		return noPlan
	}
	plan, is := newKnown(speech{d.book, text, from * oneTick, tick * oneTick}).plan()
	if !is {
		return noPlan
	}
	return len(plan)
}
