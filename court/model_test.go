package court_test

import (
	"math/rand"
	"slices"
	"testing"

	"remontoir/api"
	"remontoir/court"
	"remontoir/dial"
)

// The model: what the clock shows is looked up in a list of all local readings, tick by tick. Of small cases all errors are listed, and every answer is counted out of those that are a truth; of others it is marked, stage by stage and error by error, which entries can be true before and behind it.

func to(low, high int) api.Span { return api.Span{Low: low, High: high} }

func reading(day, hour, minute, second int) api.DialReading {
	return api.DialReading{Day: day, Hour: hour, Minute: minute, Second: second}
}

func entry(when, late api.Span, r api.DialReading) api.CourtEntry {
	return api.CourtEntry{When: when, Late: late, Reading: r}
}

// heard is an entry that was heard just when it was said.
func heard(tick int, r api.DialReading) api.CourtEntry { return entry(to(tick, tick), to(0, 0), r) }

func said(when api.Span, r api.DialReading) api.CourtClaim {
	return api.CourtClaim{Kind: api.CourtSaid, When: when, Reading: r}
}

func isAhead(when api.Span, ticks int) api.CourtClaim {
	return api.CourtClaim{Kind: api.CourtAhead, When: when, Ticks: ticks}
}

func isWithin(when api.Span, ticks int) api.CourtClaim {
	return api.CourtClaim{Kind: api.CourtWithin, When: when, Ticks: ticks}
}

// given is the case of the chapter's examples, with some entries more.
func given(more ...api.CourtEntry) api.CourtCase {
	return with(api.CourtCase{
		Calendar: api.DialCalendar{Hours: 2, Minutes: 2, Seconds: 10, Days: 1}, Town: api.DialTown{Changes: []api.DialChange{{Tick: 20, Ahead: -1}}},
		Each: 10, Step: 1, First: to(-1, 1),
		Log: []api.CourtEntry{heard(5, reading(0, 0, 0, 6)), entry(to(33, 34), to(2, 2), reading(0, 1, 0, 2))},
	}, more...)
}

// torn is an entry that contradicts the first one of the chapter's examples.
func torn() api.CourtEntry { return heard(7, reading(0, 0, 0, 7)) }

// steady is the case of the chapter's examples without a log, if the clock is always by one of some errors ahead.
func steady(errors api.Span, log ...api.CourtEntry) api.CourtCase {
	c := given()
	c.First, c.Step, c.Log = errors, 0, log
	return c
}

// copied is a copy of a case that shares nothing with it.
func copied(c api.CourtCase) api.CourtCase {
	c.Calendar.Decrees, c.Town.Changes, c.Log = slices.Clone(c.Calendar.Decrees), slices.Clone(c.Town.Changes), slices.Clone(c.Log)
	return c
}

// with is a case with entries more.
func with(c api.CourtCase, more ...api.CourtEntry) api.CourtCase {
	c = copied(c)
	c.Log = append(c.Log, more...)
	return c
}

// without is a case from which some entries are left out.
func without(c api.CourtCase, left []int) api.CourtCase {
	log := c.Log
	c = copied(c)
	c.Log = nil
	for i, e := range log {
		if !slices.Contains(left, i) {
			c.Log = append(c.Log, e)
		}
	}
	return c
}

// number is 1 for what is so.
func number(is bool) int {
	if is {
		return 1
	}
	return 0
}

// hall is a case with the local readings of all its ticks.
type hall struct {
	api.CourtCase
	local []api.DialReading
}

func hallOf(c api.CourtCase) hall {
	h := hall{CourtCase: c}
	for tick := 0; ; tick++ {
		r, e := dial.Local(c.Calendar, c.Town, tick)
		if e != api.OK {
			return h
		}
		h.local = append(h.local, r)
	}
}

// stages is how many stages there are: one more than there are ticks from which on Each more have gone by.
func (h hall) stages() int {
	n := 0
	for from := 0; from < len(h.local); from += h.Each {
		n++
	}
	return n
}

// shows is what the clock shows at a tick, and whether it shows something.
func (h hall) shows(tick, ahead int) (api.DialReading, bool) {
	if tick+ahead < 0 || tick+ahead >= len(h.local) {
		return api.DialReading{}, false
	}
	return h.local[tick+ahead], true
}

// saidAt reports whether the clock shows a reading at some tick of a stage that is in a span, with an error there.
func (h hall) saidAt(stage, ahead int, when api.Span, r api.DialReading) bool {
	for tick := max(when.Low, stage*h.Each); tick <= min(when.High, stage*h.Each+h.Each-1, len(h.local)-1); tick++ {
		if shown, ok := h.shows(tick, ahead); ok && shown == r {
			return true
		}
	}
	return false
}

// spoken is when the reading of an entry can have been said.
func spoken(e api.CourtEntry) api.Span {
	return to(e.When.Low-e.Late.High, e.When.High-e.Late.Low)
}

// isEntry reports whether an entry is true of errors.
func (h hall) isEntry(errors []int, e api.CourtEntry) bool {
	for stage, ahead := range errors {
		if h.saidAt(stage, ahead, spoken(e), e.Reading) {
			return true
		}
	}
	return false
}

// areEntries are the entries that are true of errors, as bits.
func (h hall) areEntries(errors []int) uint {
	var set uint
	for i, e := range h.Log {
		if h.isEntry(errors, e) {
			set |= 1 << i
		}
	}
	return set
}

func (h hall) all() uint { return 1<<len(h.Log) - 1 }

// isClaim reports whether a claim is true of errors, tick by tick.
func (h hall) isClaim(errors []int, c api.CourtClaim) bool {
	for tick := c.When.Low; tick <= c.When.High; tick++ {
		ahead := errors[tick/h.Each]
		r, ok := h.shows(tick, ahead)
		switch {
		case c.Kind == api.CourtSaid && ok && r == c.Reading:
			return true
		case c.Kind == api.CourtAhead && ahead < c.Ticks, c.Kind == api.CourtWithin && (ahead > c.Ticks || -ahead > c.Ticks):
			return false
		}
	}
	return c.Kind != api.CourtSaid
}

// keep reports whether errors keep to the bounds of the case.
func (h hall) keep(errors []int) bool {
	for i, ahead := range errors {
		if ahead < -30 || ahead > 30 || i == 0 && (ahead < h.First.Low || ahead > h.First.High) || i > 0 && max(ahead-errors[i-1], errors[i-1]-ahead) > h.Step {
			return false
		}
	}
	return len(errors) == h.stages()
}

// listed are all errors that keep to the bounds of the case, whatever its log says.
func (h hall) listed() [][]int {
	var all [][]int
	var goOn func(errors []int)
	goOn = func(errors []int) {
		if len(errors) == h.stages() {
			all = append(all, slices.Clone(errors))
			return
		}
		low, high := h.First.Low, h.First.High
		if len(errors) > 0 {
			low, high = errors[len(errors)-1]-h.Step, errors[len(errors)-1]+h.Step
		}
		for ahead := max(low, -30); ahead <= min(high, 30); ahead++ {
			goOn(append(errors, ahead))
		}
	}
	goOn(nil)
	return all
}

// model is what can be told of a case: which entries can be true together, with what is claimed or without, and which errors each stage has in a truth.
type model struct {
	hall
	sets   map[uint]bool
	errors [][]int
}

// claimedBit is the bit of a claim, or of its opposite.
const claimedBit = 1 << 6

func (m model) canBe() bool { return m.can(m.all()) }

// can reports whether some entries can be true.
func (m model) can(some uint) bool {
	for set := range m.sets {
		if set&some == some {
			return true
		}
	}
	return false
}

// verdict is that of the claim that the bit of the model tells of: true of all sets that have it, or of all those that do not.
func (m model) verdict(kind int) int {
	is, isNot := m.sets[m.all()|claimedBit], m.sets[m.all()]
	if kind != api.CourtSaid {
		is, isNot = isNot, is
	}
	return number(is) + number(is && !isNot)
}

// shown are the readings that can be shown at a tick.
func (m model) shown(tick int) []api.DialReading {
	var list []api.DialReading
	for _, ahead := range m.errors[tick/m.Each] {
		if r, ok := m.shows(tick, ahead); ok {
			list = append(list, r)
		}
	}
	return list
}

// when are the ticks at which a reading can be shown.
func (m model) when(r api.DialReading) []int {
	var list []int
	for tick := range m.local {
		if slices.Contains(m.shown(tick), r) {
			list = append(list, tick)
		}
	}
	return list
}

// wrong are the fewest entries without which the others can be true, out of all sets of them.
func (m model) wrong() []int {
	best := slices.Repeat([]int{99}, 7)
	for set := range m.all() + 1 {
		var list []int
		for i := range m.Log {
			if set>>i&1 == 1 {
				list = append(list, i)
			}
		}
		if m.can(m.all()&^set) && (len(list) < len(best) || len(list) == len(best) && slices.Compare(list, best) < 0) {
			best = list
		}
	}
	return best
}

// counted is the model of a case of which all errors are listed.
func counted(h hall, all [][]int) model {
	m := model{hall: h, sets: map[uint]bool{}, errors: make([][]int, h.stages())}
	for _, errors := range all {
		set := h.areEntries(errors)
		m.sets[set] = true
		for stage := range errors {
			if set == h.all() && !slices.Contains(m.errors[stage], errors[stage]) {
				m.errors[stage] = append(m.errors[stage], errors[stage])
			}
		}
	}
	for stage := range m.errors {
		slices.Sort(m.errors[stage])
	}
	return m
}

// marks are, of each error, the sets of entries (and of what is claimed) that are marked.
type marks [61][2 * claimedBit]bool

// turned are the entries that are true at a stage with each error, and the bit of a claim: of one to say a reading if it is said there, of another one if it is not so there.
func (h hall) turned(stage int, c *api.CourtClaim) [61]uint {
	var list [61]uint
	for i := range list {
		for k, e := range h.Log {
			if h.saidAt(stage, i-30, spoken(e), e.Reading) {
				list[i] |= 1 << k
			}
		}
		if c == nil || c.When.High < stage*h.Each || c.When.Low > stage*h.Each+h.Each-1 {
			continue
		}
		if c.Kind == api.CourtSaid && h.saidAt(stage, i-30, c.When, c.Reading) || c.Kind == api.CourtAhead && i-30 < c.Ticks || c.Kind == api.CourtWithin && (i-30 > c.Ticks || 30-i > c.Ticks) {
			list[i] |= claimedBit
		}
	}
	return list
}

// stepped are the marks of a next stage, with what is true there.
func (m *marks) stepped(step int, by [61]uint) *marks {
	var next marks
	for i := range m {
		for set, is := range m[i] {
			for j := max(i-step, 0); is && j <= min(i+step, 60); j++ {
				next[j][uint(set)|by[j]] = true
			}
		}
	}
	return &next
}

// pairs reports whether two sets of marks can make all entries true together.
func pairs(sooner, later [2 * claimedBit]bool, all uint) bool {
	for one, is := range sooner {
		for other := 0; is && other < len(later); other++ {
			if later[other] && uint(one|other)&all == all {
				return true
			}
		}
	}
	return false
}

// sooner are, of each stage, the marks behind it, with what is true there.
func (h hall) sooner(by [][61]uint) []*marks {
	first := &marks{}
	for ahead := h.First.Low; ahead <= h.First.High; ahead++ {
		first[ahead+30][by[0][ahead+30]] = true
	}
	list := []*marks{first}
	for _, next := range by[1:] {
		list = append(list, list[len(list)-1].stepped(h.Step, next))
	}
	return list
}

// claiming is the model of a case, without its errors, with the bit of a claim.
func claiming(h hall, c *api.CourtClaim) model {
	m := model{hall: h, sets: map[uint]bool{}}
	by := h.points(c)
	for _, sets := range h.sooner(by)[len(by)-1] {
		for set, is := range sets {
			if is {
				m.sets[uint(set)] = true
			}
		}
	}
	return m
}

// points are what is true at all stages.
func (h hall) points(c *api.CourtClaim) [][61]uint {
	var by [][61]uint
	for stage := range h.stages() {
		by = append(by, h.turned(stage, c))
	}
	return by
}

// marked is the model of a case, by marks.
func marked(h hall) model {
	m := claiming(h, nil)
	m.errors = make([][]int, h.stages())
	by := h.points(nil)
	sooner := h.sooner(by)
	later := &marks{}
	for i := range later {
		later[i][0] = true
	}
	for stage := h.stages() - 1; stage >= 0; stage-- {
		for i := range later {
			if pairs(sooner[stage][i], later[i], h.all()) {
				m.errors[stage] = append(m.errors[stage], i-30)
			}
		}
		later = later.stepped(0, by[stage]).stepped(h.Step, [61]uint{})
	}
	return m
}

// sample is a case with errors by which it was made; they are a truth unless something is torn.
type sample struct {
	c      api.CourtCase
	errors []int
	torn   bool
}

// size is how great a drawn case is at most.
type size struct{ hours, minutes, seconds, days, stages, first, step, log int }

// drawnCalendar is a calendar that is drawn, with decrees for some days.
func drawnCalendar(r *rand.Rand, z size) api.DialCalendar {
	c := api.DialCalendar{Hours: 1 + r.Intn(z.hours), Minutes: 1 + r.Intn(z.minutes), Seconds: 2 + r.Intn(z.seconds), Days: 1 + r.Intn(z.days)}
	for day := range c.Days {
		if r.Intn(3) == 0 {
			c.Decrees = append(c.Decrees, api.DialDecree{Day: day, Plus: r.Intn(2) == 0})
		}
	}
	return c
}

// drawnTown is a town that is drawn, with changes by few minutes, so that readings come again.
func drawnTown(r *rand.Rand, ticks int) api.DialTown {
	t := api.DialTown{Ahead: r.Intn(5) - 2}
	ahead := t.Ahead
	for tick := 1 + r.Intn(ticks+9); tick < ticks && len(t.Changes) < api.DialChanges; tick += 1 + r.Intn(ticks) {
		ahead += r.Intn(4) - 2
		t.Changes = append(t.Changes, api.DialChange{Tick: tick, Ahead: ahead})
	}
	return t
}

// drawnErrors are errors of a case that are drawn.
func drawnErrors(r *rand.Rand, h hall) []int {
	list := []int{h.First.Low + r.Intn(h.First.High-h.First.Low+1)}
	for len(list) < h.stages() {
		ahead := list[len(list)-1] + r.Intn(2*h.Step+1) - h.Step
		list = append(list, max(-30, min(30, ahead)))
	}
	return list
}

// drawnEntry is an entry that is true of errors, unless they show nothing at the tick that is drawn.
func drawnEntry(r *rand.Rand, h hall, errors []int) (api.CourtEntry, bool) {
	tick := r.Intn(len(h.local))
	shown, ok := h.shows(tick, errors[tick/h.Each])
	late := to(r.Intn(4), r.Intn(4))
	late.High += late.Low
	at := tick + late.Low + r.Intn(late.High-late.Low+1)
	when := to(max(0, at-r.Intn(3)), min(len(h.local)-1, at+r.Intn(3)))
	if r.Intn(6) == 0 {
		when.Low, late.High = r.Intn(when.Low+1), min(60, late.High+r.Intn(60))
	}
	return entry(when, late, shown), ok && at < len(h.local)
}

// drawnSample is a case that is drawn, with errors of which its log is true, or nearly true.
func drawnSample(r *rand.Rand, z size) sample {
	c := api.CourtCase{Calendar: drawnCalendar(r, z)}
	ticks, _ := dial.Total(c.Calendar)
	c.Town = drawnTown(r, ticks)
	c.Each = (ticks+z.stages-1)/z.stages + r.Intn(1+ticks/z.stages)
	c.Step = r.Intn(z.step + 1)
	low := r.Intn(61)
	if r.Intn(4) > 0 {
		low = 26 + r.Intn(8)
	}
	c.First = to(low-30, min(30, low-30+r.Intn(z.first)))
	h := hallOf(c)
	x := sample{errors: drawnErrors(r, h)}
	for range r.Intn(z.log + 1) {
		if e, ok := drawnEntry(r, h, x.errors); ok {
			if r.Intn(8) == 0 {
				e.Reading, x.torn = h.local[r.Intn(len(h.local))], true
			}
			c.Log = append(c.Log, e)
		}
	}
	x.c = c
	return x
}

// small are cases of few stages and few errors, of which all errors can be listed.
func small(many int) []sample {
	r := rand.New(rand.NewSource(101))
	var list []sample
	for range many {
		list = append(list, drawnSample(r, size{2, 3, 6, 2, 1 + r.Intn(4), 4, 2, 4}))
	}
	return list
}

// drawn are cases of all sizes.
func drawn(many int) []sample {
	r := rand.New(rand.NewSource(102))
	sizes := []size{{3, 3, 8, 2, 8, 6, 2, 6}, {2, 4, 9, 3, 40, 12, 3, 6}, {4, 5, 20, 2, 12, 61, 3, 5}, {1, 2, 30, 1, 20, 30, 1, 6}, {1, 3, 4, 1, 12, 20, 3, 6}}
	var list []sample
	for i := range many {
		list = append(list, drawnSample(r, sizes[i%len(sizes)]))
	}
	return list
}

// limits are cases in which all is as great, or as small, as it can be.
func limits() []api.CourtCase {
	var log []api.CourtEntry
	for i := range 6 {
		log = append(log, entry(to(0, 39), to(0, 60), reading(0, 0, i/2*3, i%2)))
	}
	wide := api.CourtCase{Calendar: api.DialCalendar{Hours: 1, Minutes: 20, Seconds: 2, Days: 1}, Each: 1, Step: 3, First: to(-30, 30), Log: log, Town: api.DialTown{Ahead: 3, Changes: []api.DialChange{{Tick: 4, Ahead: 2}, {Tick: 10, Ahead: 0}, {Tick: 12, Ahead: 1}, {Tick: 20, Ahead: -4}, {Tick: 29, Ahead: -3}, {Tick: 39, Ahead: -9}}}}
	one := wide
	one.Each, one.Step = 1000000, 0
	least := api.CourtCase{Calendar: api.DialCalendar{Hours: 1, Minutes: 1, Seconds: 2, Days: 1, Decrees: []api.DialDecree{{Day: 0}}}, Each: 1, First: to(30, 30)}
	back := least
	back.First = to(-30, -30)
	last := least
	last.First, last.Log = to(0, 0), []api.CourtEntry{entry(to(0, 0), to(0, 0), reading(0, 0, 0, 0)), entry(to(0, 0), to(0, 60), reading(0, 0, 0, 0))}
	return []api.CourtCase{given(), given(torn()), wide, one, least, back, last, steady(to(-30, 30), log[1], torn())}
}

// long is a case of as many ticks as there can be, with an entry of each day that has a decree.
func long() api.CourtCase {
	c := api.CourtCase{Calendar: api.DialCalendar{Hours: 24, Minutes: 60, Seconds: 60, Days: 10}, Each: 21601, Step: 1, First: to(-2, 2)}
	for day := range 10 {
		c.Calendar.Decrees = append(c.Calendar.Decrees, api.DialDecree{Day: day, Plus: true})
		if day >= 4 {
			c.Log = append(c.Log, heard(86401*(day+1)-1-day%2, reading(day, 23, 59, 60)))
		}
	}
	return c
}

// good returns what a call tells, which must not be an error.
func good[T any](t *testing.T, name string) func(T, api.Errno) T {
	return func(told T, e api.Errno) T {
		t.Helper()
		if e != api.OK {
			t.Errorf("%s: %d", name, e)
		}
		return told
	}
}

func isTruth(t *testing.T, c api.CourtCase, errors []int) bool {
	t.Helper()
	return good[bool](t, "IsTruth")(court.IsTruth(c, errors))
}

func errorsAt(t *testing.T, c api.CourtCase, tick int) []int {
	t.Helper()
	return good[[]int](t, "Errors")(court.Errors(c, tick))
}

func shown(t *testing.T, c api.CourtCase, tick int) []api.DialReading {
	t.Helper()
	return good[[]api.DialReading](t, "Shown")(court.Shown(c, tick))
}

func when(t *testing.T, c api.CourtCase, r api.DialReading) []int {
	t.Helper()
	return good[[]int](t, "When")(court.When(c, r))
}

func verdict(t *testing.T, c api.CourtCase, claim api.CourtClaim) int {
	t.Helper()
	return good[int](t, "Verdict")(court.Verdict(c, claim))
}

func wrong(t *testing.T, c api.CourtCase) []int {
	t.Helper()
	return good[[]int](t, "Wrong")(court.Wrong(c))
}
