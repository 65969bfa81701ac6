package scale

import (
	"iter"

	"remontoir/api"
)

// book is a valid book.
type book struct{ api.ScaleBook }

// newBook returns a book in the calculation, or ErrScale.
func newBook(b api.ScaleBook) (book, api.Errno) {
	r, e := newRule(b.Rule)
	if e != api.OK {
		return book{}, e
	}
	x := book{b}
	if !within(b.Ticks, 1, api.ScaleTicks) || !r.keeps(b.Steer, b.Ticks) || !areAll(b.Looks, api.ScaleLooks, x.isLook) {
		return book{}, api.ErrScale
	}
	return x, api.OK
}

func (b book) isTick(tick int) bool { return within(tick, 0, b.Ticks) }

func (b book) isLook(l api.ScaleLook) bool { return b.isTick(l.Tick) && isSpan(l.Off, api.ScaleOff) }

// change returns between what lies how much greater the offset is at the end of a tick than at its beginning.
func (b book) change(tick int) api.Span {
	if tick >= len(b.Steer) {
		return b.Rule.Drift
	}
	return added(api.Span{Low: b.Steer[tick], High: b.Steer[tick]}, b.Rule.Drift)
}

// offsets are between what the offset at each tick lies.
type offsets [api.ScaleTicks + 1]api.Span

// bounds are all spans in which the offset at a tick has to be: those of the looks at it, and those to which the ticks beside it bind it.
func (b book) bounds(o offsets, tick int) iter.Seq[api.Span] {
	return func(yield func(api.Span) bool) {
		for _, l := range b.Looks {
			if l.Tick == tick && !yield(l.Off) {
				return
			}
		}
		if tick > 0 && !yield(added(o[tick-1], b.change(tick-1))) {
			return
		}
		if tick < b.Ticks {
			yield(added(o[tick+1], turned(b.change(tick))))
		}
	}
}

// narrow returns the offsets within their bounds, tick by tick, unless at one of them nothing is.
func (b book) narrow(o offsets) (offsets, bool) {
	canBe := true
ticks:
	for tick := range b.Ticks + 1 {
		for s := range b.bounds(o, tick) {
			o[tick] = both(o[tick], s)
			if o[tick].Low > o[tick].High {
				canBe = false
				break ticks
			}
		}
	}
	return o, canBe
}

// offsets returns between what the offset at each tick lies, or ErrScaleFalse. Each round but the last one narrows something. What it leaves at a tick goes on to something at the next one, and comes from something at the one before, so it is so in a truth.
func (b book) offsets() (offsets, api.Errno) {
	var now offsets
	for tick := range now {
		now[tick] = api.Span{Low: -api.ScaleOff, High: api.ScaleOff}
	}
	for {
		narrower, canBe := b.narrow(now)
		if !canBe {
			return offsets{}, api.ErrScaleFalse
		}
		if narrower == now {
			return now, api.OK
		}
		now = narrower
	}
}

// worst returns the first tick of those at which the offset can be farthest from 0, and how far.
func (b book) worst(o offsets) (tick, off int) {
	for i := range b.Ticks + 1 {
		if far := farthest(o[i]); far > off {
			tick, off = i, far
		}
	}
	return tick, off
}

// meets returns in how many ticks any of some offsets is surely brought to 0, and in how many at best, or ErrNone. The farther an offset is from 0 on its side, the more ticks it needs.
func (b book) meets(s api.Span) (surely, best int, e api.Errno) {
	k := newKnown(rule{b.Rule})
	for _, x := range ends() {
		ticks, e := k.course(x.of(s)).fewest()
		if e != api.OK {
			return 0, 0, e
		}
		surely = max(surely, ticks)
	}
	best, e = k.course(nearest(s)).fewest()
	return surely, best, e
}
