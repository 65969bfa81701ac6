package court

import "remontoir/api"

// search looks for errors with which all entries that are asked about are true, and the claim is decided as it is wanted.
type search struct {
	*trial
	wanted  func(decided bool) bool
	leadsOn func(state) bool // whether it can be gone on from a state to the end
	can     []choice         // which errors each stage has in what was found
}

// newSearch returns a search. It goes through all states that can follow those that it is asked about, each only once.
func newSearch(x *trial, wanted func(decided bool) bool) search {
	s := search{trial: x, wanted: wanted, can: make([]choice, x.stages())}
	m := newMemory(x)
	s.leadsOn = func(from state) bool {
		known := m.of(from)
		if *known != unknown {
			return *known == yes
		}
		is := s.isEnd(from)
		for to := range s.after(from) {
			if s.leadsOn(to) {
				s.can[to.stage][to.ahead+api.CourtError] = true
				is = true
			}
		}
		*known = answerOf(is)
		return is
	}
	return s
}

// newTruths returns a search for all truths, whatever is claimed.
func newTruths(x *trial) search { return newSearch(x, func(bool) bool { return true }) }

// isEnd reports whether, behind the last stage, a state is what is looked for.
func (s search) isEnd(at state) bool {
	return at.stage == s.lastStage() && at.areTrue() && s.wanted(at.left&claimed == 0)
}

// canBe reports whether some entries can all be true, and the claim decided as it is wanted.
func (s search) canBe(some entries) bool { return s.leadsOn(start(some)) }

// choices returns which errors each stage has in any truth, or ErrCourtFalse.
func (x *trial) choices() ([]choice, api.Errno) {
	s := newTruths(x)
	s.canBe(x.all())
	if s.can[0] == (choice{}) {
		return nil, api.ErrCourtFalse
	}
	return s.can, api.OK
}

// truth returns a truth, or ErrCourtFalse.
func (x *trial) truth() ([]int, api.Errno) {
	s := newTruths(x)
	at := start(x.all())
	if !s.leadsOn(at) {
		return nil, api.ErrCourtFalse
	}
	var list []int
	for range x.stages() {
		at = s.next(at)
		list = append(list, at.ahead)
	}
	return list[:len(list):len(list)], api.OK
}

// next returns the first state behind another one that leads on; there is one, if this one does.
func (s search) next(at state) state {
	for to := range s.after(at) {
		if s.leadsOn(to) {
			return to
		}
	}
	return at
}

// wrong returns the fewest entries without which the others can be true, the first ones of as few.
func (x *trial) wrong(canBe func(entries) bool) entries {
	var leave func(some entries, from, many int) (entries, bool)
	leave = func(some entries, from, many int) (entries, bool) {
		if many == 0 {
			return some, canBe(x.all() &^ some)
		}
		for number := from; number < len(x.Log); number++ {
			if list, ok := leave(some|1<<number, number+1, many-1); ok {
				return list, true
			}
		}
		return 0, false
	}
	for many := range len(x.Log) {
		if list, ok := leave(0, 0, many); ok {
			return list
		}
	}
	return x.all()
}

// errorsAt returns all errors that the stage of a tick has in any truth, or the first error.
func (x *trial) errorsAt(tick int) ([]int, api.Errno) {
	if !x.isTick(tick) {
		return nil, api.ErrCourtAsk
	}
	can, e := x.choices()
	if e != api.OK {
		return nil, e
	}
	return can[x.stageOf(tick)].list(), api.OK
}
