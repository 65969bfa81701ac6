package voice

import (
	"iter"

	"remontoir/api"
)

// latestPip is the greatest time that can be asked about.
const latestPip = 100000000

// speech is a text that is said from a time to a pip.
type speech struct {
	book
	text      []int
	from, pip int
}

// newSpeech returns a speech, or the first error.
func newSpeech(b api.VoiceBook, text []int, from, pip int) (speech, api.Errno) {
	x, e := newBook(b)
	if e != api.OK {
		return speech{}, e
	}
	if !isText(text) {
		return speech{}, api.ErrVoiceText
	}
	if !areTimes(from, pip) {
		return speech{}, api.ErrVoiceAsk
	}
	return speech{x, text, from, pip}, api.OK
}

// areTimes reports whether a time and a pip can be asked about.
func areTimes(from, pip int) bool {
	return within(from, 0, latestPip) && within(pip, from, min(from+api.VoiceWindow, latestPip))
}

// pause returns between which times a piece begins that comes behind one that ended at a time.
func (s speech) pause(end int) api.Span {
	return api.Span{Low: end + s.Pause.Low, High: end + s.Pause.High}
}

// canBegin reports whether the disc of a piece has turned to it at a time.
func (s speech) canBegin(p api.VoicePiece, at int) bool { return at%s.turn(p) == p.Begin }

// isPlan reports whether pieces that begin at these times are a plan.
func (s speech) isPlan(plan []api.VoiceStart) bool {
	left, end := s.text, 0
	when := api.Span{Low: s.from, High: s.pip}
	for _, x := range plan {
		if !within(x.Piece, 0, len(s.Pieces)-1) || !isIn(x.At, when) {
			return false
		}
		p := s.Pieces[x.Piece]
		if !begins(p, left) || !s.canBegin(p, x.At) {
			return false
		}
		left, end = left[len(p.Words):], x.At+p.Long
		when = s.pause(end)
	}
	return len(left) == 0 && isIn(s.pip-end, s.Rest)
}

// moment is a place in a text (how many words come before it), and a time.
type moment struct{ place, time int }

// start is a piece that begins, and how many pieces are still to come, with this one.
type start struct {
	api.VoiceStart
	many int
}

// choice tells which one of two starts is the better one.
type choice struct {
	better func(a, b start) bool
}

func fewest() choice { return choice{func(a, b start) bool { return a.many < b.many }} }

func latest() choice { return choice{func(a, b start) bool { return a.At > b.At }} }

// best returns the best of some starts, if there are any; the first one of several.
func (c choice) best(list iter.Seq[start]) (found start, is bool) {
	for x := range list {
		if !is || c.better(x, found) {
			found, is = x, true
		}
	}
	return found, is
}

// known is a speech, and the moments at which something can end so that what is left of the text can be said in time for the pip; each with the start that is next then, in a plan with as few pieces as any. (Behind the last word none is next.)
type known struct {
	speech
	ends map[moment]start
}

// newKnown goes back from the pip to all moments.
func newKnown(s speech) known {
	k := known{speech: s, ends: map[moment]start{}}
	for time := greatest(s.from, s.pip-s.Rest.High); time <= s.pip-s.Rest.Low; time++ {
		k.ends[moment{len(s.text), time}] = start{}
	}
	for n := range len(s.text) - 1 {
		k.goBack(len(s.text) - 1 - n)
	}
	return k
}

// goBack finds all moments at a place, when those of later places are known.
func (k known) goBack(place int) {
	var last [api.VoiceWords + 1]start // by how many pieces are to come: the start that was found last, which is the soonest one
	for n := range k.pip - k.from {
		at := k.pip - 1 - n
		if x, is := fewest().best(k.starts(moment{place, at})); is {
			last[x.many] = x
		}
		end := at - k.Pause.Low
		for _, x := range last {
			if x.many > 0 && isIn(x.At, k.pause(end)) {
				k.ends[moment{place, end}] = x
				break
			}
		}
	}
}

// starts are all pieces that can begin at a moment so that what is left of the text can be said in time.
func (k known) starts(m moment) iter.Seq[start] {
	return func(yield func(start) bool) {
		for i, p := range k.goingOn(k.text[m.place:]) {
			if !k.canBegin(p, m.time) {
				continue
			}
			next, is := k.ends[moment{m.place + len(p.Words), m.time + p.Long}]
			if is && !yield(start{api.VoiceStart{Piece: i, At: m.time}, next.many + 1}) {
				return
			}
		}
	}
}

// firsts are all starts of the first piece.
func (k known) firsts() iter.Seq[start] {
	return func(yield func(start) bool) {
		for n := range k.pip - k.from {
			for x := range k.starts(moment{0, k.from + n}) {
				if !yield(x) {
					return
				}
			}
		}
	}
}

// plan returns a plan with as few pieces as any, if there is one.
func (k known) plan() ([]api.VoiceStart, bool) {
	now, is := fewest().best(k.firsts())
	var list []api.VoiceStart
	place := 0
	for now.many > 0 {
		list = append(list, now.VoiceStart)
		p := k.Pieces[now.Piece]
		place += len(p.Words)
		now = k.ends[moment{place, now.At + p.Long}]
	}
	return list[:len(list):len(list)], is
}
