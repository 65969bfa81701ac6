package star

import (
	"iter"

	"remontoir/api"
)

// thing is what has a number in a truth: a night its offset, a station its delay, and an observer the personal error with the other sign, so that a look of either kind says by how much two numbers differ.
type thing int

const (
	nothing     thing = 0 // its number is always 0: what lies between numbers is told from something to nothing
	firstNight        = nothing + 1
	firstPerson       = firstNight + api.StarNights
	firstPath         = firstPerson + api.StarPeople
	things            = firstPath + api.StarPaths
)

// ofNight is the kind of the nights; those of observers and stations are the kinds of their looks.
const ofNight = api.StarSignal + 1

// kind is a kind of things: the first one, the sign of their numbers, how many there are, what binds them without looks, and where a truth has them.
type kind struct {
	first thing
	sign  int
	many  func(book) int
	ties  func(book) iter.Seq[tie]
	told  func(*truth) *[]int
}

// kinds tell what each kind of look is about, and the nights.
func kinds() [3]kind {
	return [...]kind{
		api.StarSeen:   {firstPerson, -1, book.people, book.errors, (*truth).people},
		api.StarSignal: {firstPath, 1, book.paths, book.delays, (*truth).paths},
		ofNight:        {firstNight, 1, book.nights, book.offsets, (*truth).offsets},
	}
}

func thingOf(of, number int) thing { return kinds()[of].first + thing(number) }

// two are two things.
type two struct{ one, other thing }

// tie is that the number of one of two things, less that of the other one, is in a span.
type tie struct {
	two
	by api.Span
}

// turned returns the same tie, told of the other thing.
func (t tie) turned() tie { return tie{two{t.other, t.one}, turned(t.by)} }

// said returns what a look says of the offset of its night.
func said(l api.StarLook) tie {
	return tie{two{thingOf(ofNight, l.Night), thingOf(l.Kind, l.Who)}, api.Span{Low: l.Read - l.Err, High: l.Read + l.Err}}
}

// truth is a truth that is asked about, or told.
type truth struct{ api.StarTruth }

func (t *truth) offsets() *[]int { return &t.Offsets }

func (t *truth) people() *[]int { return &t.People }

func (t *truth) paths() *[]int { return &t.Paths }

// numbers are those of all things, one for each.
type numbers [things]int

// newNumbers returns the numbers of a truth that is asked about, if it has as many as it should.
func (b book) newNumbers(t api.StarTruth) (numbers, bool) {
	var n numbers
	asked := truth{t}
	for _, k := range kinds() {
		list := *k.told(&asked)
		if len(list) != k.many(b) {
			return numbers{}, false
		}
		for i, x := range list {
			n[k.first+thing(i)] = k.sign * x
		}
	}
	return n, true
}

// truth returns what numbers that lie to a side tell.
func (b book) truth(n numbers, s side) api.StarTruth {
	var t truth
	for _, k := range kinds() {
		var list []int
		for i := range k.many(b) {
			list = append(list, k.sign*s.sign*n[k.first+thing(i)])
		}
		*k.told(&t) = list[:len(list):len(list)]
	}
	return t.StarTruth
}
