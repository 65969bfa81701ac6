package court

import (
	"iter"

	"remontoir/api"
)

// entries are some of a log: the bit of the number of each is set. Behind them is the bit of a claim.
type entries uint8

const claimed entries = 1 << api.CourtLog

// all returns all entries of the log.
func (x *trial) all() entries { return 1<<len(x.Log) - 1 }

// list returns the numbers of the entries.
func (e entries) list() []int {
	var list []int
	for number := range api.CourtLog {
		if e>>number&1 == 1 {
			list = append(list, number)
		}
	}
	return list[:len(list):len(list)]
}

// state is a point that errors have, and what has not become true up to there, of all that is asked about.
type state struct {
	point
	left entries
}

// beforeFirst is the stage before the first one, in which nothing is so yet.
const beforeFirst = -1

// start returns the state before the first stage, if it is asked about some entries, and about a claim.
func start(some entries) state { return state{point{stage: beforeFirst}, some | claimed} }

// areTrue reports whether all entries that are asked about are true.
func (s state) areTrue() bool { return s.left&^claimed == 0 }

// noError is a span without a number.
func noError() api.Span { return api.Span{Low: 1, High: 0} }

// following returns between what lies the next error, behind a state, also if it cannot be so great; behind the last stage there is none.
func (x *trial) following(s state) api.Span {
	switch s.stage {
	case beforeFirst:
		return x.First
	case x.lastStage():
		return noError()
	}
	return api.Span{Low: s.ahead - x.Step, High: s.ahead + x.Step}
}

// after are all states of the next stage that can follow a state.
func (x *trial) after(s state) iter.Seq[state] {
	return func(yield func(state) bool) {
	errors:
		for ahead := range numbers(x.following(s)) {
			if !isIn(ahead, bounds[boundAhead]) {
				continue errors
			}
			to := point{s.stage + 1, ahead}
			if !yield(state{to, s.left &^ x.told[to]}) {
				return
			}
		}
	}
}

// isTruth reports whether errors are a truth.
func (x *trial) isTruth(errors []int) bool {
	at := start(x.all())
stages:
	for stage, ahead := range errors {
		for to := range x.after(at) {
			if to.point == (point{stage, ahead}) {
				at = to
				continue stages
			}
		}
		return false
	}
	return len(errors) == x.stages() && at.areTrue()
}
