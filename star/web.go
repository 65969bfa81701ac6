package star

import (
	"math"

	"remontoir/api"
)

// known is between what the number of a thing, less that of another one, lies for all that is told of just these two.
type known map[two]api.Span

// learn joins a tie to what is known.
func (k known) learn(t tie) {
	if before, ok := k[t.two]; ok {
		t.by = both(before, t.by)
	}
	k[t.two] = t.by
}

// learnBoth learns a tie both ways round.
func (k known) learnBoth(t tie) {
	k.learn(t)
	k.learn(t.turned())
}

// newKnown returns what a book tells.
func newKnown(b book) known {
	k := known{}
	for _, x := range kinds() {
		for t := range x.ties(b) {
			k.learnBoth(t)
		}
	}
	for night := range b.Nights {
		for l := range b.looksOf(night) {
			k.learnBoth(said(l))
		}
	}
	return k
}

// web is a book with all that is known of two of its things, both ways round.
type web struct {
	book
	ties []tie
}

func newWeb(b book) web {
	k := newKnown(b)
	w := web{book: b}
	for one := range things {
		for other := range things {
			if by, ok := k[two{one, other}]; ok {
				w.ties = append(w.ties, tie{two{one, other}, by})
			}
		}
	}
	return w
}

// newQuestion returns the web of a book that is asked about some of a kind, or the first error.
func newQuestion(b api.StarBook, of int, asked ...int) (web, api.Errno) {
	x, e := newBook(b)
	if e != api.OK {
		return web{}, e
	}
	for _, n := range asked {
		if !x.has(of, n) {
			return web{}, api.ErrStarAsk
		}
	}
	return newWeb(x), api.OK
}

// holds reports whether numbers keep to all ties. Differences of great numbers wrap around, but each tie that leads away from nothing keeps one number more within bounds, so that in numbers that keep to all of them nothing wraps around.
func (w web) holds(n numbers) bool {
	for _, t := range w.ties {
		if !within(n[t.one]-n[t.other], t.by.Low, t.by.High) {
			return false
		}
	}
	return true
}

// unknown is how far a thing can be of which nothing is known yet.
const unknown = math.MaxInt

// narrow brings each number as near to the others as the ties demand.
func (w web) narrow(n *numbers, s side) {
ties:
	for _, t := range w.ties {
		if n[t.other] == unknown {
			continue ties
		}
		n[t.one] = least(n[t.one], n[t.other]+s.end(t.by))
	}
}

// farthest returns how far to a side of the number of one thing those of all things can lie, all of them at once, if the book can be true. What bounds a number most comes over a chain of ties that passes each thing once, so there are as many rounds as things; if something still changes in the last one, ties contradict each other.
func (w web) farthest(from thing, s side) (numbers, bool) {
	var now numbers
	for t := range now {
		now[t] = unknown
	}
	now[from] = 0
	for range things {
		before := now
		w.narrow(&now, s)
		if now == before {
			return now, true
		}
	}
	return numbers{}, false
}

// spans are between what the numbers of all things lie.
type spans [things]api.Span

// from returns between what the numbers of all things, less that of one, lie, if the book can be true.
func (w web) from(one thing) (spans, bool) {
	up, canBe := w.farthest(one, upwards())
	if !canBe {
		return spans{}, false
	}
	down, _ := w.farthest(one, downwards())
	var all spans
	for t := range all {
		all[t] = api.Span{Low: -down[t], High: up[t]}
	}
	return all, true
}

// between returns between what the number of a second thing, less that of a first one, lies, or ErrStarFalse.
func (w web) between(first, second thing) (api.Span, api.Errno) {
	all, canBe := w.from(first)
	if !canBe {
		return api.Span{}, api.ErrStarFalse
	}
	return all[second], api.OK
}

// worst returns the first night whose offset lies in the widest span, and how wide this is, or the first error.
func (w web) worst() (int, int, api.Errno) {
	all, canBe := w.from(nothing)
	if !canBe {
		return 0, 0, api.ErrStarFalse
	}
	worst, most := 0, 0
	for night := range w.Nights {
		s := all[thingOf(ofNight, night)]
		if wide := s.High - s.Low; wide > most {
			worst, most = night, wide
		}
	}
	if most == 0 {
		return 0, 0, api.ErrNone
	}
	return worst, most, api.OK
}
