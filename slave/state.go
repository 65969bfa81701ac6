package slave

import (
	"iter"

	"remontoir/api"
)

// signs is how many signs there are.
const signs = 2

func isSign(n int) bool { return within(n, 0, signs-1) }

// state is what a slave clock shows, and the sign of the pulse that it got last.
type state struct{ shown, last int }

// states are all that a slave clock of a line can be in.
func (l line) states() iter.Seq[state] {
	return func(yield func(state) bool) {
		for shown := range l.Ring {
			for last := range signs {
				if !yield(state{shown, last}) {
					return
				}
			}
		}
	}
}

// pulled returns the state behind a pulse with a sign.
func (s state) pulled(sign, ring int) state {
	if s.last == sign {
		return s
	}
	return state{(s.shown + 1) % ring, sign}
}

// homed returns the state behind a home pulse, which has no sign.
func (s state) homed(_, ring int) state {
	if s.shown != 0 {
		s.shown = (s.shown + 1) % ring
	}
	return s
}

// seen returns the state behind a look, which pulls nothing.
func (s state) seen(_, _ int) state { return s }

// marks tell of each state whether it is marked.
type marks [api.SlaveRing][signs]bool

// mark marks a state, and reports whether it was marked already.
func (m *marks) mark(s state) bool {
	was := m[s.shown][s.last]
	m[s.shown][s.last] = true
	return was
}

// minutes are those that can be shown.
type minutes [api.SlaveRing]bool

// list returns the minutes, increasing.
func (m minutes) list() []int {
	var list []int
	for minute, can := range m {
		if can {
			list = append(list, minute)
		}
	}
	return list[:len(list):len(list)]
}
