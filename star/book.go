package star

import (
	"iter"

	"remontoir/api"
)

// book is a valid book, and the looks that are left out.
type book struct {
	api.StarBook
	without looks
}

// newBook returns a book in the calculation, or ErrStar.
func newBook(b api.StarBook) (book, api.Errno) {
	x := book{StarBook: b}
	if !x.hasNights() || !x.hasOthers() || !areAll(b.Looks, api.StarLooks, x.isLook) {
		return book{}, api.ErrStar
	}
	return x, api.OK
}

func (b book) hasNights() bool {
	return within(b.Nights, 1, api.StarNights) &&
		isSpan(b.Begin, -api.StarOffset, api.StarOffset) && isSpan(b.Rate, -api.StarRate, api.StarRate)
}

// hasOthers reports whether observers and stations are as they have to be.
func (b book) hasOthers() bool {
	return areAll(b.People, api.StarPeople, isPerson) && areAll(b.Paths, api.StarPaths, isPath)
}

func isPerson(s api.Span) bool { return isSpan(s, -api.StarPerson, api.StarPerson) }

func isPath(s api.Span) bool { return isSpan(s, 0, api.StarDelay) }

func (b book) isLook(l api.StarLook) bool {
	return b.has(ofNight, l.Night) && within(l.Kind, api.StarSeen, api.StarSignal) && b.has(l.Kind, l.Who) &&
		within(l.Read, -api.StarReading, api.StarReading) && within(l.Err, 0, api.StarErr)
}

// has reports whether something of a kind is there.
func (b book) has(of, number int) bool { return within(number, 0, kinds()[of].many(b)-1) }

func (b book) nights() int { return b.Nights }

func (b book) people() int { return len(b.People) }

func (b book) paths() int { return len(b.Paths) }

// offsets are what binds the nights without looks: the beginning, and the rate from each to the next one.
func (b book) offsets() iter.Seq[tie] {
	return func(yield func(tie) bool) {
		if !yield(tie{two{thingOf(ofNight, 0), nothing}, b.Begin}) {
			return
		}
		for night := range b.Nights - 1 {
			if !yield(tie{two{thingOf(ofNight, night+1), thingOf(ofNight, night)}, b.Rate}) {
				return
			}
		}
	}
}

// errors are what binds the observers without looks.
func (b book) errors() iter.Seq[tie] {
	return func(yield func(tie) bool) {
		for who, s := range b.People {
			if !yield(tie{two{thingOf(api.StarSeen, who), nothing}, turned(s)}) {
				return
			}
		}
	}
}

// delays are what binds the stations without looks.
func (b book) delays() iter.Seq[tie] {
	return func(yield func(tie) bool) {
		for who, s := range b.Paths {
			if !yield(tie{two{thingOf(api.StarSignal, who), nothing}, s}) {
				return
			}
		}
	}
}

// looksOf are the looks of a night that are not left out.
func (b book) looksOf(night int) iter.Seq[api.StarLook] {
	return func(yield func(api.StarLook) bool) {
		for i, l := range b.Looks {
			if l.Night != night || b.without[i] {
				continue
			}
			if !yield(l) {
				return
			}
		}
	}
}
