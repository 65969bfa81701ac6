package spare

import (
	"iter"

	"remontoir/api"
)

// set is a set of machines.
type set [api.SpareMachines]bool

func (s set) without(number int) set {
	s[number] = false
	return s
}

// all is the set of all machines.
func (s store) all() set {
	var all set
	for number := range s.Machines {
		all[number] = true
	}
	return all
}

// others is the set of the machines that are not in a set.
func (s store) others(than set) set {
	others := s.all()
	for number := range s.Machines {
		others[number] = !than[number]
	}
	return others
}

// sets are all sets of machines.
func (s store) sets() iter.Seq[set] {
	return func(yield func(set) bool) {
		for bits := range 1 << len(s.Machines) {
			var some set
			for number := range s.Machines {
				some[number] = bits>>number&1 == 1
			}
			if !yield(some) {
				return
			}
		}
	}
}

// takers are the machines of a set that can take over, if they are in step in time: they last for an hour, at least as the last ones.
func (s store) takers(of set) iter.Seq2[int, machine] {
	return func(yield func(int, machine) bool) {
		for number := range s.Machines {
			m := s.machine(number)
			if of[number] && m.last() > 0 && !yield(number, m) {
				return
			}
		}
	}
}

// relay is turns of machines, each of which takes over as late as it can, just when it gets in step; and the hour until which they go on.
type relay struct {
	turns []api.SpareTurn
	end   int
}

// then returns the relay that goes on with a machine for some hours.
func (r relay) then(number int, m machine, hours int) relay {
	t := api.SpareTurn{Machine: number, Start: r.end - m.Warm, Over: r.end}
	return relay{append(r.turns[:len(r.turns):len(r.turns)], t), r.end + hours}
}

// key is a set of machines, and how many turns they take.
type key struct {
	of    set
	turns int
}

// reach is how far machines of a set go, by the way in which the last one of them lasts. A relay without turns tells that there is none.
type reach [ways]relay

// search is a store, and what finds how far sets of its machines reach.
type search struct {
	store
	find func(key) reach
}

func newSearch(s api.SpareStore) (search, api.Errno) {
	x, e := newStore(s)
	if e != api.OK {
		return search{}, e
	}
	return search{x, x.finder()}, api.OK
}

// finder returns what finds how far sets of machines reach. It looks for the last turn first: the later the machines before it end, the more machines can take over, and the farther each goes. So it is enough to keep the farthest ones.
func (s store) finder() func(key) reach {
	known := map[key]reach{}
	var find func(key) reach
	find = func(k key) reach {
		if r, ok := known[k]; ok || k.turns == 0 {
			return r
		}
		var far reach
	machines:
		for number, m := range s.takers(k.of) {
			before := find(key{k.of.without(number), k.turns - 1})[asStint]
			if len(before.turns) < k.turns-1 || m.ready() > before.end {
				continue machines
			}
			for way, lasts := range lasting() {
				if hours := lasts(m); hours > 0 && before.end+hours > far[way].end {
					far[way] = before.then(number, m, hours)
				}
			}
		}
		known[k] = far
		return far
	}
	return find
}

// plan returns the plan of machines of a set with the fewest turns; it is empty, if there is none. With fewer turns they end too soon, so that all of these begin before the end.
func (s search) plan(of set) []api.SpareTurn {
	for turns := range len(s.Machines) + 1 {
		if r := s.find(key{of, turns})[asLast]; r.end >= s.Hours {
			return r.turns[:len(r.turns):len(r.turns)]
		}
	}
	return nil
}

// farthest returns for how many hours there is a plan at most.
func (s search) farthest() int {
	far := 0
	for turns := range len(s.Machines) + 1 {
		far = max(far, s.find(key{s.all(), turns})[asLast].end)
	}
	return far
}

// needed returns the machines without which there is no plan.
func (s search) needed() []int {
	var list []int
	for number := range s.Machines {
		if len(s.plan(s.all().without(number))) == 0 {
			list = append(list, number)
		}
	}
	return list[:len(list):len(list)]
}

// pairs returns how many turns two plans have together, the first one of machines of a set, and the other one of all others, for all sets for which there are such plans.
func (s search) pairs() []int {
	var list []int
	for some := range s.sets() {
		one, other := s.plan(some), s.plan(s.others(some))
		if len(one) > 0 && len(other) > 0 {
			list = append(list, len(one)+len(other))
		}
	}
	return list[:len(list):len(list)]
}
