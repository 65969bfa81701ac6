package court

import (
	"iter"

	"remontoir/api"
)

// kind is what a kind of claim says: by which points it is decided, and whether it is true if the errors have one of them, or if they have none.
type kind struct {
	points func(claim) iter.Seq[point]
	ofOne  bool
}

// kinds are those of all claims.
func kinds() [3]kind {
	return [...]kind{
		api.CourtSaid:   {claim.saying, true},
		api.CourtAhead:  {claim.behind, false},
		api.CourtWithin: {claim.farther, false},
	}
}

// claim is a valid claim, and the trial in which it is told, like an entry, at the points by which it is decided.
type claim struct {
	*trial
	api.CourtClaim
	kind
}

// newClaim returns a claim in the calculation, or the first error.
func newClaim(c api.CourtCase, about api.CourtClaim) (claim, api.Errno) {
	x, e := newTrial(c)
	if e != api.OK {
		return claim{}, e
	}
	if !x.isClaim(about) {
		return claim{}, api.ErrCourtAsk
	}
	y := claim{x, about, kinds()[about.Kind]}
	for at := range y.points(y) {
		y.told[at] |= claimed
	}
	return y, api.OK
}

func (x *trial) isClaim(c api.CourtClaim) bool {
	return isIn(c.Kind, bounds[boundKind]) && isSpan(c.When, x.calendar()) && isIn(c.Ticks, bounds[boundAhead])
}

// saying are the points at which the clock shows the reading.
func (c claim) saying() iter.Seq[point] {
	return func(yield func(point) bool) {
		for _, at := range c.showings(c.Reading, c.When) {
			if !yield(at) {
				return
			}
		}
	}
}

// behind are the points at which the clock is ahead by less than is claimed.
func (c claim) behind() iter.Seq[point] {
	return c.those(func(ahead int) bool { return ahead < c.Ticks })
}

// farther are the points at which the clock is off by more than is claimed.
func (c claim) farther() iter.Seq[point] {
	return c.those(func(ahead int) bool { return greatest(ahead, -ahead) > c.Ticks })
}

// those are the points of the stages that are claimed about, with errors as they have to be.
func (c claim) those(is func(ahead int) bool) iter.Seq[point] {
	return func(yield func(point) bool) {
		for stage := range numbers(api.Span{Low: c.stageOf(c.When.Low), High: c.stageOf(c.When.High)}) {
			for ahead := range numbers(bounds[boundAhead]) {
				if is(ahead) && !yield(point{stage, ahead}) {
					return
				}
			}
		}
	}
}

// isTrue reports whether the claim is true, if the errors have one of the points by which it is decided, or if they have none.
func (c claim) isTrue(decided bool) bool { return decided == c.ofOne }

// isFalse reports whether its opposite is.
func (c claim) isFalse(decided bool) bool { return !c.isTrue(decided) }

// verdict returns in which truths the claim is true, or ErrCourtFalse.
func (c claim) verdict() (int, api.Errno) {
	can, need := c.canBe(c.isTrue), !c.canBe(c.isFalse)
	switch {
	case !can && need:
		return 0, api.ErrCourtFalse
	case !can:
		return api.CourtNot, api.OK
	case need:
		return api.CourtProved, api.OK
	}
	return api.CourtMay, api.OK
}

// canBe reports whether there is a truth in which the claim, or its opposite, is so.
func (c claim) canBe(wanted func(decided bool) bool) bool {
	return newSearch(c.trial, wanted).canBe(c.all())
}
