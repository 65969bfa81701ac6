package slave_test

import (
	"math/rand"
	"slices"
	"testing"

	"remontoir/api"
	"remontoir/slave"
)

// The model: a slave clock gets one pulse after the other, as the chapter tells it. Of small lines all lists of lost pulses are looked at, and every answer is counted out from them; of others all states are marked that can be reached, each with how many pulses can have been lost in all. Plans are sent pulse by pulse, and tried in the order in which one is taken.

func to(low, high int) api.Span { return api.Span{Low: low, High: high} }

func send(first, count, lost int) api.SlaveEvent {
	return api.SlaveEvent{Kind: api.SlaveSend, First: first, Count: count, Lost: lost}
}

func home(count, lost int) api.SlaveEvent {
	return api.SlaveEvent{Kind: api.SlaveHome, Count: count, Lost: lost}
}

func look(who, shown int) api.SlaveEvent {
	return api.SlaveEvent{Kind: api.SlaveLook, Who: who, Shown: shown}
}

func planned(pre, home, first, send int) api.SlavePlan {
	return api.SlavePlan{Pre: pre, Home: home, First: first, Send: send}
}

// given is a line of the chapter's examples, with more events.
func given(more ...api.SlaveEvent) api.SlaveLine {
	return with(api.SlaveLine{Ring: 12, Starts: []api.SlaveStart{{Shown: 10, Last: 1}}, Events: []api.SlaveEvent{send(0, 4, 1)}}, more...)
}

// alone is a line of one slave clock.
func alone(ring, shown, last int, events ...api.SlaveEvent) api.SlaveLine {
	return api.SlaveLine{Ring: ring, Starts: []api.SlaveStart{{Shown: shown, Last: last}}, Events: events}
}

// two is a line of two slave clocks that got other signs.
func two(events ...api.SlaveEvent) api.SlaveLine {
	return api.SlaveLine{Ring: 5, Starts: []api.SlaveStart{{Shown: 1, Last: 0}, {Shown: 3, Last: 1}}, Events: events}
}

// copied is a copy of a line that shares nothing with it.
func copied(l api.SlaveLine) api.SlaveLine {
	l.Starts, l.Events = slices.Clone(l.Starts), slices.Clone(l.Events)
	return l
}

// with is a line with events more.
func with(l api.SlaveLine, events ...api.SlaveEvent) api.SlaveLine {
	l = copied(l)
	l.Events = append(l.Events, events...)
	return l
}

// put is a line with an event more, which is there where that number is.
func put(l api.SlaveLine, number int, e api.SlaveEvent) api.SlaveLine {
	l = copied(l)
	l.Events = slices.Insert(l.Events, number, e)
	return l
}

// without is a line from which some events are left out.
func without(l api.SlaveLine, left []int) api.SlaveLine {
	events := l.Events
	l = copied(l)
	l.Events = nil
	for i, e := range events {
		if !slices.Contains(left, i) {
			l.Events = append(l.Events, e)
		}
	}
	return l
}

// looks are the numbers of a line's looks.
func looks(l api.SlaveLine) []int {
	var list []int
	for i, e := range l.Events {
		if e.Kind == api.SlaveLook {
			list = append(list, i)
		}
	}
	return list
}

// hands are what a slave clock shows, and the sign that it got last.
type hands struct{ shown, last int }

func begin(l api.SlaveLine, who int) hands { return hands{l.Starts[who].Shown, l.Starts[who].Last} }

// got are the hands behind a pulse of an event.
func (h hands) got(ring int, e api.SlaveEvent, pulse int) hands {
	next := h.shown + 1
	if next == ring {
		next = 0
	}
	if e.Kind == api.SlaveHome {
		if h.shown != 0 {
			h.shown = next
		}
		return h
	}
	sign := e.First
	if pulse%2 == 1 {
		sign = 1 - e.First
	}
	if sign != h.last {
		return hands{next, sign}
	}
	return h
}

// pulsesOf is how many pulses an event has.
func pulsesOf(e api.SlaveEvent) int {
	if e.Kind == api.SlaveLook {
		return 0
	}
	return e.Count
}

// behind are the hands behind an event of which some pulses are lost.
func (h hands) behind(ring int, e api.SlaveEvent, lost []int) hands {
	for pulse := range pulsesOf(e) {
		if !slices.Contains(lost, pulse) {
			h = h.got(ring, e, pulse)
		}
	}
	return h
}

// lies reports whether an event is a look at a slave clock that does not show what the event says.
func lies(e api.SlaveEvent, who int, h hands) bool {
	return e.Kind == api.SlaveLook && e.Who == who && e.Shown != h.shown
}

// losses are all lists of pulses of an event that can be lost.
func losses(e api.SlaveEvent) [][]int {
	return slices.DeleteFunc(sets(pulsesOf(e)), func(list []int) bool { return len(list) > 0 && len(list) > e.Lost })
}

// sets are all sets of numbers from 0 on, so many: the shorter lists first, and those of a length in their order.
func sets(many int) [][]int {
	var all [][]int
	for bits := range 1 << many {
		var list []int
		for i := range many {
			if bits>>i&1 == 1 {
				list = append(list, i)
			}
		}
		all = append(all, list)
	}
	slices.SortFunc(all, func(a, b []int) int {
		if len(a) != len(b) {
			return len(a) - len(b)
		}
		return slices.Compare(a, b)
	})
	return all
}

// many is how many pulses are lost in a story.
func many(story [][]int) int {
	n := 0
	for _, list := range story {
		n += len(list)
	}
	return n
}

// model is what is told of a slave clock: whether it can be as its events say, in which states it can be then, and how many pulses it can have lost.
type model struct {
	states []hands
	lost   []int
}

func (m model) canBe() bool { return len(m.states) > 0 }

func (m model) minutes() []int {
	var list []int
	for _, h := range m.states {
		list = append(list, h.shown)
	}
	slices.Sort(list)
	return slices.Compact(list)
}

func (m model) span() api.Span { return to(slices.Min(m.lost), slices.Max(m.lost)) }

// listed are all stories of a slave clock of a small line, and its model.
func listed(l api.SlaveLine, who int) ([][][]int, model) {
	stories, ends := [][][]int{nil}, []hands{begin(l, who)}
	for _, e := range l.Events {
		var longer [][][]int
		var behind []hands
		for i, story := range stories {
			for _, lost := range losses(e) {
				if h := ends[i].behind(l.Ring, e, lost); !lies(e, who, h) {
					longer = append(longer, append(slices.Clone(story), lost))
					behind = append(behind, h)
				}
			}
		}
		stories, ends = longer, behind
	}
	m := model{states: ends}
	for _, story := range stories {
		m.lost = append(m.lost, many(story))
	}
	return stories, m
}

// marks are, of each state, how many pulses can have been lost when it is reached: the bit of a number is set.
type marks [api.SlaveRing][2]uint64

// got are the marks behind a pulse that is not lost.
func (m marks) got(ring int, e api.SlaveEvent, pulse int) marks {
	var next marks
	for shown := range ring {
		for last := range 2 {
			h := hands{shown, last}.got(ring, e, pulse)
			next[h.shown][h.last] |= m[shown][last]
		}
	}
	return next
}

// lose are the marks with a pulse lost more.
func (m marks) lose() marks {
	for shown := range m {
		for last := range m[shown] {
			m[shown][last] <<= 1
		}
	}
	return m
}

// or are the marks of both.
func (m marks) or(other marks) marks {
	for shown := range m {
		for last := range m[shown] {
			m[shown][last] |= other[shown][last]
		}
	}
	return m
}

// behind are the marks behind an event; while its pulses come, they are told apart by how many of them are lost.
func (m marks) behind(ring int, e api.SlaveEvent) marks {
	by := []marks{m, {}, {}, {}}
	for pulse := range pulsesOf(e) {
		next := make([]marks, 4)
		for lost := range by {
			next[lost] = by[lost].got(ring, e, pulse)
			if 0 < lost && lost <= e.Lost {
				next[lost] = next[lost].or(by[lost-1].lose())
			}
		}
		by = next
	}
	return by[0].or(by[1]).or(by[2]).or(by[3])
}

// marked is the model of a slave clock, by marks.
func marked(l api.SlaveLine, who int) model {
	var m marks
	h := begin(l, who)
	m[h.shown][h.last] = 1
	for _, e := range l.Events {
		m = m.behind(l.Ring, e)
		for shown := range m {
			if lies(e, who, hands{shown, 0}) {
				m[shown] = [2]uint64{}
			}
		}
	}
	var x model
	bits := uint64(0)
	for shown := range m {
		for last, lost := range m[shown] {
			if lost != 0 {
				x.states = append(x.states, hands{shown, last})
			}
			bits |= lost
		}
	}
	for n := range 64 {
		if bits>>n&1 == 1 {
			x.lost = append(x.lost, n)
		}
	}
	return x
}

// allOf are the states of all slave clocks of a line; none, if one cannot be as its events say.
func allOf(l api.SlaveLine) []hands {
	var list []hands
	for who := range l.Starts {
		m := marked(l, who)
		if !m.canBe() {
			return nil
		}
		list = append(list, m.states...)
	}
	return list
}

// fewest are the fewest looks without which each slave clock can be as its events say, out of all sets of looks.
func fewest(l api.SlaveLine) []int {
	numbers := looks(l)
	for _, set := range sets(len(numbers)) {
		var list []int
		for _, i := range set {
			list = append(list, numbers[i])
		}
		if len(allOf(without(l, list))) > 0 {
			return list
		}
	}
	return nil
}

// sent are the hands behind a plan.
func (h hands) sent(ring int, p api.SlavePlan) hands {
	if p.Pre != -1 {
		h = h.behind(ring, send(p.Pre, 1, 0), nil)
	}
	return h.behind(ring, home(p.Home, 0), nil).behind(ring, send(p.First, p.Send, 0), nil)
}

// setsAll reports whether a plan brings all of some states to a minute.
func setsAll(ring int, states []hands, minute int, p api.SlavePlan) bool {
	return !slices.ContainsFunc(states, func(h hands) bool { return h.sent(ring, p).shown != minute })
}

// plansOf are all plans of so many pulses, in the order in which one is taken.
func plansOf(pulses int) []api.SlavePlan {
	var list []api.SlavePlan
	for pre := -1; pre <= 1; pre++ {
		left := pulses
		if pre >= 0 {
			left--
		}
		for home := max(0, left-60); home <= min(left, 60); home++ {
			list = append(list, planned(pre, home, 0, left-home), planned(pre, home, 1, left-home))
		}
	}
	return list
}

// pulsesIn is how many pulses a plan has.
func pulsesIn(p api.SlavePlan) int { return min(p.Pre, 0) + 1 + p.Home + p.Send }

// bestPlans are all plans of as few pulses as any that bring states to a minute.
func bestPlans(ring int, states []hands, minute int) []api.SlavePlan {
	for pulses := range 122 {
		if list := slices.DeleteFunc(plansOf(pulses), func(p api.SlavePlan) bool { return !setsAll(ring, states, minute, p) }); len(list) > 0 {
			return list
		}
	}
	return nil
}

// homesOf is how many home pulses bring all of some states to 0, if so many of them can be lost.
func homesOf(ring int, states []hands, lost int) int {
	var m marks
	for _, h := range states {
		m[h.shown][h.last] = 1
	}
	for n := range 100 {
		after := m.behind(ring, home(n, lost))
		if !slices.ContainsFunc(after[1:], func(x [2]uint64) bool { return x != [2]uint64{} }) {
			return n
		}
	}
	return -1
}

// size is how great a drawn line is at most.
type size struct{ ring, clocks, events, count, lost int }

// sizes are those of drawn lines: small ones, ones with many looks, and ones up to the limits.
func sizes() []size {
	return []size{{3, 2, 4, 3, 1}, {12, 1, 6, 10, 2}, {6, 4, 10, 6, 1}, {60, 2, 6, 60, 3}, {30, 3, 10, 20, 3}, {60, 4, 10, 60, 1}}
}

// sample is a line with a story of each of its slave clocks, and where this one ends.
type sample struct {
	l       api.SlaveLine
	stories [][][]int
	ends    []hands
}

// drawnStarts are slave clocks that are drawn.
func drawnStarts(r *rand.Rand, ring, most int) []api.SlaveStart {
	var list []api.SlaveStart
	shown := r.Intn(ring)
	for range 1 + r.Intn(most) {
		if r.Intn(2) == 0 {
			shown = r.Intn(ring)
		}
		list = append(list, api.SlaveStart{Shown: shown, Last: r.Intn(2)})
	}
	return list
}

// drawnPulses is an event of pulses that is drawn.
func drawnPulses(r *rand.Rand, z size) api.SlaveEvent {
	if r.Intn(4) == 0 {
		return home(r.Intn(z.count+1), r.Intn(z.lost+1))
	}
	return send(r.Intn(2), r.Intn(z.count+1), r.Intn(z.lost+1))
}

// drawnLoss are pulses of an event that a slave clock loses.
func drawnLoss(r *rand.Rand, e api.SlaveEvent) []int {
	list := r.Perm(e.Count)[:r.Intn(min(e.Lost, e.Count)+1)]
	slices.Sort(list)
	return list
}

// goOn goes on over an event of pulses, of which each slave clock loses some.
func (x *sample) goOn(r *rand.Rand, e api.SlaveEvent) {
	x.l.Events = append(x.l.Events, e)
	for who := range x.l.Starts {
		var lost []int
		if e.Kind != api.SlaveLook {
			lost = drawnLoss(r, e)
		}
		x.stories[who] = append(x.stories[who], lost)
		x.ends[who] = x.ends[who].behind(x.l.Ring, e, lost)
	}
}

func drawnSample(r *rand.Rand, z size) sample {
	ring := 2 + r.Intn(z.ring-1)
	if r.Intn(3) > 0 {
		ring = z.ring
	}
	x := sample{l: api.SlaveLine{Ring: ring, Starts: drawnStarts(r, ring, z.clocks)}}
	for who := range x.l.Starts {
		x.stories, x.ends = append(x.stories, nil), append(x.ends, begin(x.l, who))
	}
	for range z.events/2 + r.Intn(z.events-z.events/2+1) {
		if who := r.Intn(len(x.l.Starts)); r.Intn(3) == 0 {
			x.goOn(r, look(who, x.ends[who].shown))
		} else {
			x.goOn(r, drawnPulses(r, z))
		}
	}
	return x
}

// samples are drawn ones, always the same.
func samples(count int) []sample {
	r := rand.New(rand.NewSource(71))
	var list []sample
	for i := range count {
		list = append(list, drawnSample(r, sizes()[i%len(sizes())]))
	}
	return list
}

// lying is a line some of whose looks tell what is not so, or only by chance.
func lying(r *rand.Rand, l api.SlaveLine, share int) api.SlaveLine {
	l = copied(l)
	for _, i := range looks(l) {
		if r.Intn(share) == 0 {
			l.Events[i].Shown = (l.Events[i].Shown + l.Ring + r.Intn(5) - r.Intn(3)) % l.Ring
		}
	}
	for range r.Intn(api.SlaveEvents + 1 - len(l.Events)) {
		l = put(l, r.Intn(len(l.Events)+1), look(r.Intn(len(l.Starts)), r.Intn(l.Ring)))
	}
	return l
}

// drawn are drawn lines, always the same ones; in each second one some looks tell what is not so.
func drawn(count int) []api.SlaveLine {
	r := rand.New(rand.NewSource(72))
	var list []api.SlaveLine
	for i := 0; len(list) < count; i++ {
		x := drawnSample(r, sizes()[i%len(sizes())])
		list = append(list, x.l, lying(r, x.l, 1+i%3))
	}
	return list[:count]
}

// small are drawn lines of which all lists of lost pulses can be looked at.
func small(count int) []api.SlaveLine {
	r := rand.New(rand.NewSource(73))
	var list []api.SlaveLine
	for len(list) < count {
		l := drawnSample(r, size{5, 2, 4, 4, 2}).l
		if r.Intn(2) == 0 {
			l = lying(r, l, 2)
		}
		list = append(list, l)
	}
	return list
}

// good returns a result that comes without an error.
func good[T any](t *testing.T, what string) func(T, api.Errno) T {
	t.Helper()
	return func(x T, e api.Errno) T {
		t.Helper()
		if e != api.OK {
			t.Fatalf("%s: error %d", what, e)
		}
		return x
	}
}

// can are the minutes that are told of a slave clock; none, if it cannot be as its events say.
func can(t *testing.T, l api.SlaveLine, who int) []int {
	t.Helper()
	list, e := slave.Can(l, who)
	if e != api.OK && e != api.ErrSlaveFalse || (e == api.OK) != (len(list) > 0) {
		t.Fatalf("Can: %v, %d", list, e)
	}
	return list
}

// wrong are the looks that are told to be wrong.
func wrong(t *testing.T, l api.SlaveLine) []int {
	t.Helper()
	return good[[]int](t, "Wrong")(slave.Wrong(l))
}

// isStory reports whether something is told to be a story.
func isStory(t *testing.T, l api.SlaveLine, who int, story [][]int) bool {
	t.Helper()
	return good[bool](t, "IsStory")(slave.IsStory(l, who, story))
}
