package court_test

import (
	"math"
	"math/rand"
	"reflect"
	"slices"
	"testing"

	"remontoir/api"
	"remontoir/court"
)

// claimsOf are claims about a case: some of what its clock said with some errors, and some that are drawn.
func claimsOf(r *rand.Rand, h hall, errors []int) []api.CourtClaim {
	last := len(h.local) - 1
	span := func() api.Span {
		low := r.Intn(last + 1)
		return to(low, min(last, low+r.Intn(1+r.Intn(last+1))))
	}
	list := []api.CourtClaim{said(span(), h.local[r.Intn(last+1)]), said(to(0, last), reading(0, 0, r.Intn(9), r.Intn(9)))}
	tick := r.Intn(last + 1)
	ahead := errors[tick/h.Each]
	if shown, ok := h.shows(tick, ahead); ok {
		list = append(list, said(to(tick, tick), shown), said(to(max(0, tick-r.Intn(7)), min(last, tick+r.Intn(7))), shown))
	}
	for _, kind := range []int{api.CourtAhead, api.CourtWithin} {
		for range 3 {
			ticks := max(-30, min(30, ahead+r.Intn(5)-2))
			list = append(list, api.CourtClaim{Kind: kind, When: span(), Ticks: ticks}, api.CourtClaim{Kind: kind, When: to(tick, tick), Ticks: max(ticks, -ticks)})
		}
	}
	return list
}

// checkCase compares all that is told of a case with its model.
func checkCase(t *testing.T, where int, m model) {
	t.Helper()
	c := m.CourtCase
	list, e := court.Truth(c)
	if list, want := wrong(t, c), m.wrong(); !slices.Equal(list, want) {
		t.Errorf("case %d: Wrong: %v instead of %v", where, list, want)
	}
	if !m.canBe() {
		checkErrors(t, "a case that cannot be true", api.ErrCourtFalse, aboutTick(c, 0), aboutTick(c, len(m.local)-1), aboutReading(c, m.local[0]), aboutClaim(c, api.CourtClaim{}))
		return
	}
	if e != api.OK || !m.keep(list) || m.areEntries(list) != m.all() || !isTruth(t, c, list) {
		t.Errorf("case %d: Truth: %v, %d", where, list, e)
	}
	for stage := range m.stages() {
		first, last := stage*m.Each, min(stage*m.Each+m.Each, len(m.local))-1
		for _, tick := range []int{first, (first + last) / 2, last} {
			if list := errorsAt(t, c, tick); !slices.Equal(list, m.errors[stage]) {
				t.Errorf("case %d: Errors of %d: %v instead of %v", where, tick, list, m.errors[stage])
			}
			if list := shown(t, c, tick); !slices.Equal(list, m.shown(tick)) {
				t.Errorf("case %d: Shown of %d: %v instead of %v", where, tick, list, m.shown(tick))
			}
		}
	}
}

// checkWhen compares with the model when some readings are shown.
func checkWhen(t *testing.T, where int, m model, readings []api.DialReading) (several int) {
	t.Helper()
	for _, r := range readings {
		list, want := when(t, m.CourtCase, r), m.when(r)
		if !slices.Equal(list, want) {
			t.Errorf("case %d: When of %v: %v instead of %v", where, r, list, want)
		}
		several += number(len(list) > 1)
	}
	return several
}

// P10.1 to P10.5: of small cases all errors are listed.
func TestSmallCases(t *testing.T) {
	r := rand.New(rand.NewSource(111))
	var false0, truths, several int
	verdicts := [3][3]int{}
	for i, x := range small(500) {
		h := hallOf(x.c)
		all := h.listed()
		m := counted(h, all)
		checkCase(t, i, m)
		false0 += number(!m.canBe())
		for _, errors := range all {
			is := h.areEntries(errors) == h.all()
			truths += number(is)
			if isTruth(t, x.c, errors) != is {
				t.Errorf("case %d: IsTruth of %v: %v", i, errors, !is)
			}
			other := slices.Clone(errors)
			other[r.Intn(len(other))] += 1 + r.Intn(3)
			if is := h.keep(other) && h.areEntries(other) == h.all(); isTruth(t, x.c, other) != is {
				t.Errorf("case %d: IsTruth of %v: %v", i, other, !is)
			}
		}
		if !m.canBe() {
			continue
		}
		several += checkWhen(t, i, m, h.local)
		for _, claim := range claimsOf(r, h, x.errors) {
			is, isNot := false, false
			for _, errors := range all {
				if h.areEntries(errors) == h.all() {
					one := h.isClaim(errors, claim)
					is, isNot = is || one, isNot || !one
				}
			}
			want := number(is) + number(is && !isNot)
			if n := verdict(t, x.c, claim); n != want {
				t.Errorf("case %d: Verdict of %v: %d instead of %d", i, claim, n, want)
			}
			verdicts[claim.Kind][want]++
		}
	}
	if false0 < 40 || truths < 5000 || several < 1000 || slices.Min(slices.Concat(verdicts[0][:], verdicts[1][:], verdicts[2][:])) < 100 {
		t.Errorf("%d cases cannot be true, others have %d truths, %d readings are shown at several ticks, and the verdicts are %v: too few to tell something", false0, truths, several, verdicts)
	}
}

// P10.1 to P10.5: cases of all sizes.
func TestManyCases(t *testing.T) {
	r := rand.New(rand.NewSource(112))
	var false0, many int
	verdicts := [3][3]int{}
	for i, x := range drawn(150) {
		h := hallOf(x.c)
		m := marked(h)
		checkCase(t, i, m)
		false0 += number(!m.canBe())
		if !m.canBe() {
			continue
		}
		some := []api.DialReading{h.local[0], h.local[len(h.local)-1]}
		for range 10 {
			some = append(some, h.local[r.Intn(len(h.local))])
		}
		many += checkWhen(t, i, m, some)
		for _, claim := range claimsOf(r, h, x.errors) {
			want := claiming(h, &claim).verdict(claim.Kind)
			if n := verdict(t, x.c, claim); n != want {
				t.Errorf("case %d: Verdict of %v: %d instead of %d", i, claim, n, want)
			}
			verdicts[claim.Kind][want]++
		}
	}
	if false0 < 15 || many < 400 || slices.Min(slices.Concat(verdicts[0][:], verdicts[1][:], verdicts[2][:])) < 20 {
		t.Errorf("%d cases cannot be true, %d readings are shown at several ticks, and the verdicts are %v: too few to tell something", false0, many, verdicts)
	}
}

// P1, P10.1 to P10.5: cases at the limits, and as long ones as there can be.
func TestLimits(t *testing.T) {
	r := rand.New(rand.NewSource(113))
	for i, c := range limits() {
		h := hallOf(c)
		m := marked(h)
		checkCase(t, i, m)
		if !m.canBe() {
			continue
		}
		checkWhen(t, i, m, h.local)
		errors, _ := court.Truth(c)
		for _, claim := range claimsOf(r, h, errors) {
			if n, want := verdict(t, c, claim), claiming(h, &claim).verdict(claim.Kind); n != want {
				t.Errorf("case %d: Verdict of %v: %d instead of %d", i, claim, n, want)
			}
		}
	}
	h := hallOf(long())
	m := marked(h)
	checkCase(t, -1, m)
	checkWhen(t, -1, m, []api.DialReading{reading(7, 23, 59, 60), reading(0, 0, 0, 0)})
	for _, claim := range []api.CourtClaim{said(to(0, 864009), reading(6, 23, 59, 60)), said(to(600000, 604806), reading(6, 23, 59, 60)), isAhead(to(432000, 864009), 0), isWithin(to(432000, 864009), 5), isWithin(to(0, 864009), 20), isWithin(to(0, 864009), 1)} {
		if n, want := verdict(t, long(), claim), claiming(h, &claim).verdict(claim.Kind); n != want {
			t.Errorf("the long case: Verdict of %v: %d instead of %d", claim, n, want)
		}
	}
}

// spoil overwrites a list, with what lies behind it in its memory.
func spoil(list []int) {
	for i := range list[:cap(list)] {
		list[:cap(list)][i] = -99
	}
}

// P10.6, P2: arguments are not changed, results share nothing, and the same arguments have the same result.
func TestMemory(t *testing.T) {
	for i, c := range slices.Concat(limits(), cases(drawn(60))) {
		before := copied(c)
		h := hallOf(c)
		ask := func() ([]api.DialReading, [][]int) {
			truth, _ := court.Truth(c)
			kept := slices.Clone(truth)
			court.IsTruth(c, truth)
			if !slices.Equal(kept, truth) {
				t.Errorf("case %d: errors are changed from %v to %v", i, kept, truth)
			}
			errors, _ := court.Errors(c, 0)
			readings, _ := court.Shown(c, 0)
			ticks, _ := court.When(c, h.local[0])
			list, _ := court.Wrong(c)
			court.Verdict(c, said(to(0, 0), h.local[0]))
			return readings, [][]int{truth, errors, ticks, list}
		}
		readings, told := ask()
		keptReadings, kept := slices.Clone(readings), [][]int{}
		for _, x := range told {
			kept = append(kept, slices.Clone(x))
		}
		for k, x := range told {
			spoil(x)
			for other := k + 1; other < len(told); other++ {
				if !slices.Equal(told[other], kept[other]) {
					t.Errorf("case %d: the results %d and %d share memory", i, k, other)
				}
			}
		}
		for k := range readings[:cap(readings)] {
			readings[:cap(readings)][k] = reading(-9, -9, -9, -9)
		}
		again, toldAgain := ask()
		same := slices.Equal(again, keptReadings) && slices.EqualFunc(toldAgain[1:], kept[1:], slices.Equal)
		if !reflect.DeepEqual(c, before) || !same || len(kept[0]) > 0 && !isTruth(t, c, toldAgain[0]) {
			t.Errorf("case %d: it is changed, or another result: %v, %v", i, again, toldAgain)
		}
	}
}

// R3: between nil and empty lists there is no difference.
func TestEmpty(t *testing.T) {
	none, empty := steady(to(-1, 1)), steady(to(-1, 1))
	none.Town.Changes, none.Log, none.Calendar.Decrees = nil, nil, nil
	empty.Town.Changes, empty.Log, empty.Calendar.Decrees = []api.DialChange{}, []api.CourtEntry{}, []api.DialDecree{}
	for tick := range 41 {
		one := slices.Concat(aboutTick(none, tick), aboutReading(none, reading(0, 0, 1, tick)), aboutClaim(none, isWithin(to(0, tick), 0)), aboutAny(none, nil))
		other := slices.Concat(aboutTick(empty, tick), aboutReading(empty, reading(0, 0, 1, tick)), aboutClaim(empty, isWithin(to(0, tick), 0)), aboutAny(empty, []int{}))
		if !reflect.DeepEqual(one, other) {
			t.Errorf("%v and %v", one, other)
		}
	}
}

// P1: any arguments are answered, and soon.
func TestAnyArguments(t *testing.T) {
	sizes := []int{math.MinInt, math.MinInt + 1, -31, -30, -1, 0, 1, 2, 3, 9, 10, 30, 31, 39, 40, 60, 61, 1000000, math.MaxInt - 1, math.MaxInt}
	r := rand.New(rand.NewSource(114))
	size := func() int { return sizes[r.Intn(len(sizes))] }
	span := func() api.Span { return to(size(), size()) }
	valid := 0
	for range 25000 {
		c := given(entry(to(r.Intn(40), 39), to(0, r.Intn(60)), reading(size(), size(), size(), size())))
		switch r.Intn(6) {
		case 0:
			c.Each, c.Step = size(), size()
		case 1:
			c.First, c.Log = span(), c.Log[:r.Intn(4)]
		case 2:
			c.Log[0].When, c.Log[1].Late = span(), span()
		case 3:
			c.Calendar, c.Town.Changes = api.DialCalendar{Hours: size(), Minutes: size(), Seconds: size(), Days: size()}, nil
		}
		e := court.Check(c)
		any := reading(size(), size(), size(), size())
		checkSame(t, "any", e, aboutAny(c, []int{size(), size(), size(), size()}[:r.Intn(5)]))
		list, tick := aboutReading(c, any), size()
		claim := api.CourtClaim{Kind: size(), When: span(), Reading: any, Ticks: size()}
		if e != api.OK {
			checkErrors(t, "any", e, list, aboutTick(c, tick), aboutClaim(c, claim))
			continue
		}
		if tick < 0 {
			checkErrors(t, "any", api.ErrCourtAsk, aboutTick(c, tick))
		}
		if claim.Kind < 0 || claim.Kind > 2 || claim.When.Low < 0 || claim.When.Low > claim.When.High || claim.Ticks < -30 || claim.Ticks > 30 {
			checkErrors(t, "any", api.ErrCourtAsk, aboutClaim(c, claim))
		} else {
			aboutClaim(c, claim)
		}
		aboutTick(c, tick)
		valid++
	}
	if valid < 4000 {
		t.Errorf("only %d valid cases", valid)
	}
}

// P10.7: whatever the errors truly were, if they are a truth, they are among those that are told, and so is all that is true of them.
func TestTheCourt(t *testing.T) {
	r := rand.New(rand.NewSource(115))
	truths, proved, not := 0, 0, 0
	for i, x := range drawn(250) {
		if x.torn {
			continue
		}
		truths++
		h := hallOf(x.c)
		if !isTruth(t, x.c, x.errors) {
			t.Errorf("case %d: %v are no truth", i, x.errors)
		}
		for range 12 {
			tick := r.Intn(len(h.local))
			ahead := x.errors[tick/h.Each]
			if !slices.Contains(errorsAt(t, x.c, tick), ahead) {
				t.Errorf("case %d: at %d the error %d is not told", i, tick, ahead)
			}
			if got, ok := h.shows(tick, ahead); ok && (!slices.Contains(shown(t, x.c, tick), got) || !slices.Contains(when(t, x.c, got), tick)) {
				t.Errorf("case %d: at %d the reading %v is not told", i, tick, got)
			}
		}
		for _, claim := range claimsOf(r, h, x.errors) {
			is, n := h.isClaim(x.errors, claim), verdict(t, x.c, claim)
			if is && n == api.CourtNot || !is && n == api.CourtProved {
				t.Errorf("case %d: the verdict of %v, which is %v, is %d", i, claim, is, n)
			}
			proved += number(n == api.CourtProved)
			not += number(n == api.CourtNot)
		}
	}
	if truths < 100 || min(proved, not) < 200 {
		t.Errorf("%d truths, %d claims that are proved, and %d that are not true: too few to tell something", truths, proved, not)
	}
}

// P10.8: with an entry that is true just if a claim is that is proved nothing changes; with one that is told not to be true there is no truth; with one that can be it is proved.
func TestTheVerdict(t *testing.T) {
	r := rand.New(rand.NewSource(116))
	var count [3]int
	for i, x := range drawn(250) {
		h := hallOf(x.c)
		if len(x.c.Log) == api.CourtLog || len(wrong(t, x.c)) > 0 {
			continue
		}
		for _, claim := range claimsOf(r, h, x.errors) {
			if claim.Kind != api.CourtSaid {
				continue
			}
			n := verdict(t, x.c, claim)
			count[n]++
			taken := with(x.c, entry(claim.When, to(0, 0), claim.Reading))
			if n == api.CourtNot {
				checkErrors(t, "a claim that is not true", api.ErrCourtFalse, aboutTick(taken, 0), aboutReading(taken, claim.Reading), aboutClaim(taken, claim))
				continue
			}
			if verdict(t, taken, claim) != api.CourtProved {
				t.Errorf("case %d: %v is taken, but not proved", i, claim)
			}
			for stage := range h.stages() {
				if n == api.CourtProved && !slices.Equal(errorsAt(t, taken, stage*h.Each), errorsAt(t, x.c, stage*h.Each)) {
					t.Errorf("case %d: %v is proved, but changes the stage %d", i, claim, stage)
				}
			}
		}
	}
	if slices.Min(count[:]) < 40 {
		t.Errorf("verdicts %v: too few to tell something", count)
	}
}

// P10.8, P10.4: what a claim says of one tick is what is told of its errors.
func TestClaimsOfATick(t *testing.T) {
	r := rand.New(rand.NewSource(117))
	var count [3]int
	for i, x := range drawn(80) {
		h := hallOf(x.c)
		if len(wrong(t, x.c)) > 0 {
			continue
		}
		tick := r.Intn(len(h.local))
		errors := errorsAt(t, x.c, tick)
		for ticks := -30; ticks <= 30; ticks++ {
			ahead, within := 0, 0
			for _, n := range errors {
				ahead += number(n >= ticks)
				within += number(n <= ticks && -n <= ticks)
			}
			for claim, many := range map[api.CourtClaim]int{isAhead(to(tick, tick), ticks): ahead, isWithin(to(tick, tick), ticks): within} {
				want := number(many > 0) + number(many == len(errors))
				if n := verdict(t, x.c, claim); n != want {
					t.Errorf("case %d: Verdict of %v: %d instead of %d: %v", i, claim, n, want, errors)
				}
				count[want]++
			}
		}
	}
	if slices.Min(count[:]) < 300 {
		t.Errorf("verdicts %v: too few to tell something", count)
	}
}

// isPart reports whether all of a list is in another one.
func isPart[T comparable](list, of []T) bool {
	return !slices.ContainsFunc(list, func(x T) bool { return !slices.Contains(of, x) })
}

// P10.9: with an entry more nothing that was not possible is, and what was proved stays proved, as long as the case can be true.
func TestOneEntryMore(t *testing.T) {
	r := rand.New(rand.NewSource(118))
	less, proved := 0, 0
	for i, x := range drawn(150) {
		if len(x.c.Log) == 0 || len(wrong(t, x.c)) > 0 {
			continue
		}
		h := hallOf(x.c)
		fewer := without(x.c, []int{r.Intn(len(x.c.Log))})
		for stage := range h.stages() {
			tick := min(stage*h.Each+r.Intn(h.Each), len(h.local)-1)
			now, before := errorsAt(t, x.c, tick), errorsAt(t, fewer, tick)
			less += number(len(now) < len(before))
			if !isPart(now, before) || !isPart(shown(t, x.c, tick), shown(t, fewer, tick)) {
				t.Errorf("case %d: at %d, with an entry more: %v, before %v", i, tick, now, before)
			}
		}
		for _, claim := range claimsOf(r, h, x.errors) {
			now, before := verdict(t, x.c, claim), verdict(t, fewer, claim)
			proved += number(now != before)
			if before != api.CourtMay && now != before {
				t.Errorf("case %d: with an entry more the verdict of %v is %d, before %d", i, claim, now, before)
			}
		}
	}
	if less < 200 || proved < 60 {
		t.Errorf("%d stages have fewer errors, and %d verdicts are others: too few to tell something", less, proved)
	}
}

// wider are cases with one thing wider.
func wider(r *rand.Rand, c api.CourtCase, last int) []api.CourtCase {
	var list []api.CourtCase
	put := func(change func(c *api.CourtCase)) {
		next := copied(c)
		change(&next)
		list = append(list, next)
	}
	put(func(c *api.CourtCase) { c.Step = min(3, c.Step+1) })
	put(func(c *api.CourtCase) { c.First.Low = max(-30, c.First.Low-1-r.Intn(3)) })
	put(func(c *api.CourtCase) { c.First.High = min(30, c.First.High+1+r.Intn(3)) })
	for i := range c.Log {
		put(func(c *api.CourtCase) { c.Log[i].When.Low = max(0, c.Log[i].When.Low-1-r.Intn(9)) })
		put(func(c *api.CourtCase) { c.Log[i].When.High = min(last, c.Log[i].When.High+1+r.Intn(9)) })
		put(func(c *api.CourtCase) { c.Log[i].Late.Low = max(0, c.Log[i].Late.Low-1-r.Intn(9)) })
		put(func(c *api.CourtCase) { c.Log[i].Late.High = min(60, c.Log[i].Late.High+1+r.Intn(9)) })
	}
	return list
}

// P10.9: with a greater Step, a wider First, When or Late nothing that could be shown cannot be any more.
func TestWider(t *testing.T) {
	r := rand.New(rand.NewSource(119))
	more := 0
	for i, x := range drawn(100) {
		if len(wrong(t, x.c)) > 0 {
			continue
		}
		h := hallOf(x.c)
		for k, c := range wider(r, x.c, len(h.local)-1) {
			for range 4 {
				tick := r.Intn(len(h.local))
				before, now := errorsAt(t, x.c, tick), errorsAt(t, c, tick)
				more += number(len(now) > len(before))
				if !isPart(before, now) || !isPart(shown(t, x.c, tick), shown(t, c, tick)) || !isPart(when(t, x.c, h.local[tick]), when(t, c, h.local[tick])) {
					t.Errorf("case %d, wider by %d: at %d %v, before %v", i, k, tick, now, before)
				}
			}
		}
	}
	if more < 200 {
		t.Errorf("only %d stages have more errors", more)
	}
}

// P10.10: a reading can have been shown at a tick just if it is among those that are told of this tick, and just if the claim that it was, at this tick alone, is proved or possible.
func TestTheSameAnswer(t *testing.T) {
	r := rand.New(rand.NewSource(120))
	can, cannot := 0, 0
	for i, x := range drawn(200) {
		if len(wrong(t, x.c)) > 0 {
			continue
		}
		h := hallOf(x.c)
		for range 4 {
			got := h.local[r.Intn(len(h.local))]
			ticks := when(t, x.c, got)
			for range 6 {
				tick := r.Intn(len(h.local))
				if len(ticks) > 0 && r.Intn(2) == 0 {
					tick = max(0, min(len(h.local)-1, ticks[r.Intn(len(ticks))]+r.Intn(3)-1))
				}
				is := slices.Contains(ticks, tick)
				if is != slices.Contains(shown(t, x.c, tick), got) || is != (verdict(t, x.c, said(to(tick, tick), got)) > api.CourtNot) {
					t.Errorf("case %d: %v at %d: %v, %v, %d", i, got, tick, is, shown(t, x.c, tick), verdict(t, x.c, said(to(tick, tick), got)))
				}
				can += number(is)
				cannot += number(!is)
			}
		}
	}
	if min(can, cannot) < 500 {
		t.Errorf("%d readings can be shown, and %d cannot: too few to tell something", can, cannot)
	}
}

// weaker are claims that are true if another one is.
func weaker(r *rand.Rand, c api.CourtClaim, last int) []api.CourtClaim {
	if c.Kind == api.CourtSaid {
		return []api.CourtClaim{said(to(max(0, c.When.Low-r.Intn(5)), min(last, c.When.High+r.Intn(5))), c.Reading), said(to(c.When.Low, last), c.Reading), said(to(0, c.When.High), c.Reading)}
	}
	fewer := c
	fewer.When.Low += r.Intn(c.When.High - c.When.Low + 1)
	fewer.When.High -= r.Intn(fewer.When.High - fewer.When.Low + 1)
	less := c
	less.Ticks += 1 + r.Intn(2)
	if c.Kind == api.CourtAhead {
		less.Ticks = c.Ticks - 1 - r.Intn(2)
	}
	less.Ticks = max(-30, min(30, less.Ticks))
	return []api.CourtClaim{fewer, less}
}

// P10.11: a claim of more ticks to say a reading is proved if one of fewer is; a claim to be ahead by fewer ticks, or within more, or at fewer ticks, likewise.
func TestWeakerClaims(t *testing.T) {
	r := rand.New(rand.NewSource(121))
	var more, proved [3]int
	for i, x := range drawn(150) {
		if len(wrong(t, x.c)) > 0 {
			continue
		}
		h := hallOf(x.c)
		for _, claim := range claimsOf(r, h, x.errors) {
			n := verdict(t, x.c, claim)
			proved[claim.Kind] += number(n == api.CourtProved)
			for _, other := range weaker(r, claim, len(h.local)-1) {
				then := verdict(t, x.c, other)
				more[claim.Kind] += number(then > n)
				if then < n {
					t.Errorf("case %d: the verdict of %v is %d, and that of %v, which says less, %d", i, claim, n, other, then)
				}
			}
		}
	}
	if slices.Min(more[:]) < 60 || slices.Min(proved[:]) < 30 {
		t.Errorf("%v claims are proved, and %v weaker ones are truer: too few to tell something", proved, more)
	}
}

// P10.12: without the entries that are told there is a truth; without fewer there never is.
func TestTheEntriesThatMustBeWrong(t *testing.T) {
	var count [7]int
	for i, c := range slices.Concat(limits(), cases(small(300)), cases(drawn(300))) {
		list := wrong(t, c)
		count[len(list)]++
		if errors, e := court.Truth(without(c, list)); e != api.OK || !isTruth(t, without(c, list), errors) {
			t.Errorf("case %d: without %v: %v, %d", i, list, errors, e)
		}
		if _, e := court.Truth(c); (e == api.OK) != (len(list) == 0) {
			t.Errorf("case %d: %v must be wrong, but Truth: %d", i, list, e)
		}
		for set := range 1 << len(c.Log) {
			var fewer []int
			for k := range c.Log {
				if set>>k&1 == 1 {
					fewer = append(fewer, k)
				}
			}
			if _, e := court.Truth(without(c, fewer)); len(fewer) < len(list) && e != api.ErrCourtFalse {
				t.Errorf("case %d: %v must be wrong, but without %v: %d", i, list, fewer, e)
			}
		}
	}
	if count[0] < 200 || count[1] < 50 || count[2] < 5 {
		t.Errorf("so many entries must be wrong: %v: too few to tell something", count)
	}
}
