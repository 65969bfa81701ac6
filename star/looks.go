package star

import "remontoir/api"

// looks is a set of looks.
type looks [api.StarLooks]bool

// list returns the looks of the set, strictly increasing.
func (s looks) list() []int {
	var list []int
	for i, is := range s {
		if is {
			list = append(list, i)
		}
	}
	return list[:len(list):len(list)]
}

// fewest returns the first of the smallest sets of so many looks that will do. Where not even all of them will, it is none; without all looks a book can always be true.
func fewest(many int, willDo func(looks) bool) looks {
	var set looks
	var choose func(from, left int) bool
	choose = func(from, left int) bool {
		if left == 0 {
			return willDo(set)
		}
		for i := from; i < many; i++ {
			set[i] = true
			if choose(i+1, left-1) {
				return true
			}
			set[i] = false
		}
		return false
	}
	for size := range many + 1 {
		if choose(0, size) {
			break
		}
	}
	return set
}

// canBeTrueWithout reports whether a book can be true without some looks.
func (b book) canBeTrueWithout(left looks) bool {
	b.without = left
	_, canBe := newWeb(b).farthest(nothing, upwards())
	return canBe
}

// idle returns the looks each of which changes nothing that is told, if the book can be true.
func (b book) idle() (looks, bool) {
	all, canBe := newWeb(b).from(nothing)
	if !canBe {
		return looks{}, false
	}
	var idle looks
	for i := range b.Looks {
		less := b
		less.without[i] = true
		told, _ := newWeb(less).from(nothing)
		idle[i] = told == all
	}
	return idle, true
}
