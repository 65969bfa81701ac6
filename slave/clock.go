package slave

import (
	"cmp"
	"slices"

	"remontoir/api"
)

// past is what happened to a slave clock until it is in a state: the pulses that it lost of each event, and the looks at it that do not tell what it showed. Without such looks it is a story.
type past struct {
	lost  [][]int
	wrong []int
}

// many returns how many pulses were lost in all.
func (p past) many() int {
	all := 0
	for _, lost := range p.lost {
		all += len(lost)
	}
	return all
}

// order compares two pasts that lead to the same state: below 0 it takes the first one. If both go on in the same way, it still takes this one.
type order func(a, b past) int

// truer takes the past with fewer wrong looks, or as many that come first.
func (p past) truer(other past) int {
	return cmp.Or(cmp.Compare(len(p.wrong), len(other.wrong)), slices.Compare(p.wrong, other.wrong))
}

// fewer takes, of pasts that are as true, the one in which fewer pulses were lost.
func (p past) fewer(other past) int {
	return cmp.Or(p.truer(other), cmp.Compare(p.many(), other.many()))
}

// more takes, of pasts that are as true, the one in which more pulses were lost.
func (p past) more(other past) int {
	return cmp.Or(p.truer(other), cmp.Compare(other.many(), p.many()))
}

// known are the pasts that are taken, by the states to which they lead.
type known map[state]past

// learn takes a past that leads to a state, if it is to be taken.
func (k known) learn(s state, p past, by order) {
	if taken, ok := k[s]; !ok || by(p, taken) < 0 {
		k[s] = p
	}
}

// clock is a slave clock of a line.
type clock struct {
	line
	who int
}

// newClock returns the slave clock of a line that is asked about, or the first error.
func newClock(l api.SlaveLine, who int) (clock, api.Errno) {
	x, e := newLine(l)
	if e != api.OK {
		return clock{}, e
	}
	if !x.isClock(who) {
		return clock{}, api.ErrSlaveAsk
	}
	return clock{x, who}, api.OK
}

func (c clock) start() state {
	s := c.Starts[c.who]
	return state{s.Shown, s.Last}
}

// isStory reports whether pulses that were lost, of each event, are a story.
func (c clock) isStory(story [][]int) bool {
	if len(story) != len(c.events) {
		return false
	}
	s := c.start()
	for i, e := range c.events {
		if !e.canLose(story[i]) {
			return false
		}
		s = c.after(e, s, story[i])
		if e.contradicts(c.who, s) {
			return false
		}
	}
	return true
}

// inOrder returns the states that are known, in the order of their pasts.
func (c clock) inOrder(k known, by order) []state {
	var list []state
	for s := range c.states() {
		if _, ok := k[s]; ok {
			list = append(list, s)
		}
	}
	slices.SortStableFunc(list, func(a, b state) int { return by(k[a], k[b]) })
	return list[:len(list):len(list)]
}

// goOn returns a past that goes on over an event, behind which the slave clock is in a state.
func (c clock) goOn(p past, number int, s state, lost []int) past {
	p.lost = append(p.lost[:number:number], lost[:len(lost):len(lost)])
	if c.events[number].contradicts(c.who, s) {
		p.wrong = append(p.wrong[:len(p.wrong):len(p.wrong)], number)
	}
	return p
}

// behind returns what is known behind an event, by what is known before it. What can follow depends only on the pulse that comes next, the state, and how many pulses of the event are lost; because pasts are tried in their order, the first one that comes there is the one that is taken.
func (c clock) behind(number int, before known, by order) known {
	e := c.events[number]
	got := kinds()[e.Kind].got
	after := known{}
	var been [api.SlaveCount][api.SlaveLost + 1]marks
	for _, start := range c.inOrder(before, by) {
		var try func(from int, s state, lost []int)
		try = func(from int, s state, lost []int) {
			for pulse, sign := range e.pulses(from) {
				if been[pulse][len(lost)].mark(s) {
					return
				}
				if len(lost) < e.Lost {
					try(pulse+1, s, append(lost[:len(lost):len(lost)], pulse))
				}
				s = got(s, sign, c.Ring)
			}
			after.learn(s, c.goOn(before[start], number, s, lost), by)
		}
		try(0, start, nil)
	}
	return after
}

// ends returns what is known behind all events, with wrong looks or without.
func (c clock) ends(by order) known {
	k := known{c.start(): past{}}
	for number := range c.events {
		k = c.behind(number, k, by)
	}
	return k
}

// taken returns the past that is taken of all.
func (c clock) taken(by order) past {
	k := c.ends(by)
	return k[c.inOrder(k, by)[0]]
}

// story returns the story that is taken of all, or ErrSlaveFalse.
func (c clock) story(by order) (past, api.Errno) {
	p := c.taken(by)
	if len(p.wrong) > 0 {
		return past{}, api.ErrSlaveFalse
	}
	return p, api.OK
}

// can returns all states in which the slave clock can be behind all events, in any story.
func (c clock) can() []state {
	k := c.ends(past.truer)
	var list []state
states:
	for s := range c.states() {
		p, ok := k[s]
		if !ok || len(p.wrong) > 0 {
			continue states
		}
		list = append(list, s)
	}
	return list[:len(list):len(list)]
}

// minutes returns all minutes that the slave clock can show behind all events, or ErrSlaveFalse.
func (c clock) minutes() (minutes, api.Errno) {
	var m minutes
	for _, s := range c.can() {
		m[s.shown] = true
	}
	if m == (minutes{}) {
		return m, api.ErrSlaveFalse
	}
	return m, api.OK
}
