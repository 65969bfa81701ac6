package spare

import "remontoir/api"

// isTurn reports whether a machine can take over as a turn says, whatever the others do.
func (s store) isTurn(t api.SpareTurn) bool {
	if !s.isNumber(t.Machine) || !isIn(t.Over, api.Span{Low: 0, High: s.Hours - 1}) {
		return false
	}
	m := s.machine(t.Machine)
	return isIn(t.Start, api.Span{Low: m.From, High: t.Over - m.Warm})
}

// off returns by how much the machine of a turn can be off at an hour in which it is in step.
func (s store) off(t api.SpareTurn, hour int) int {
	m := s.machine(t.Machine)
	return m.Drift * (hour - t.Start - m.Warm)
}

// takesOver reports whether the machine of a turn takes over later than the one before it, and not too far from it.
func (s store) takesOver(before, t api.SpareTurn) bool {
	return t.Over > before.Over && s.off(before, t.Over)+s.off(t, t.Over) <= s.Gap
}

// isPlan reports whether turns are a plan.
func (s store) isPlan(plan []api.SpareTurn) bool {
	var used set
	for i, t := range plan {
		if !s.isTurn(t) || used[t.Machine] {
			return false
		}
		if used == (set{}) && t.Over != 0 {
			return false
		}
		if used != (set{}) && !s.takesOver(plan[i-1], t) {
			return false
		}
		used[t.Machine] = true
	}
	return used != (set{}) && len(s.surely(plan).silent()) == 0
}

// watch is how the machines of turns run: each for so many hours after its Start.
type watch struct {
	store
	turns []api.SpareTurn
	life  func(turn int) int
}

// surely returns how the machines of turns surely run.
func (s store) surely(turns []api.SpareTurn) watch {
	return watch{s, turns, func(turn int) int { return s.machine(turns[turn].Machine).Life.Low }}
}

// living returns how the machines of turns run, if their lives are told.
func (s store) living(turns []api.SpareTurn, lives []int) watch {
	return watch{s, turns, func(turn int) int { return lives[turn] }}
}

// silent returns the hours in which the machine that speaks does not run. It was started before it speaks, so that it can only have ended.
func (w watch) silent() []int {
	var list []int
	turn := 0
	for hour := range w.Hours {
		if turn+1 < len(w.turns) && w.turns[turn+1].Over == hour {
			turn++
		}
		if hour >= w.turns[turn].Start+w.life(turn) {
			list = append(list, hour)
		}
	}
	return list[:len(list):len(list)]
}

// isAsked reports whether turns are a plan, and lives are those of its machines.
func isAsked(plan []api.SpareTurn, lives []int, isPlan func([]api.SpareTurn) bool) bool {
	return isPlan(plan) && len(lives) == len(plan) && areAll(lives, len(plan), isLife)
}
