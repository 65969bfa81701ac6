package voice_test

import (
	"math"
	"math/rand"
	"reflect"
	"slices"
	"testing"

	"remontoir/api"
	"remontoir/dial"
	"remontoir/voice"
)

// P5.2, P5.8: the fewest pieces are those of the listed ones; what is told says the text.
func TestFewestOfDrawnBooks(t *testing.T) {
	said := 0
	for i, q := range many(2000) {
		l, e := voice.Fewest(q.b, q.text)
		checkPieces(t, i, l, e, best(lists(q.b, q.text)))
		if len(l) > 1 {
			said++
		}
	}
	if said < 600 {
		t.Errorf("only %d texts", said)
	}
}

// P5.3, P5.12: the pieces that are needed are the first set of those that are enough, each of them is; with any of them left out some text cannot be said.
func TestNeededOfDrawnBooks(t *testing.T) {
	r := rand.New(rand.NewSource(31))
	some := 0
	for i, q := range many(1000) {
		texts := [][]int{q.text}
		for len(texts) < 1+r.Intn(6) {
			if x := drawnText(r, q.b, 5); howMany(q.b, x) < 60 {
				texts = append(texts, x)
			}
		}
		l, e := voice.Needed(q.b, texts)
		checkPieces(t, i, l, e, needed(q.b, texts))
		if len(l) > 2 {
			some++
		}
		for k := range l {
			if allSaid(t, of(q.b, slices.Delete(slices.Clone(l), k, k+1)), texts) {
				t.Errorf("book %d: %v, without the piece %d of them", i, l, k)
			}
		}
		if e == api.OK && !allSaid(t, of(q.b, l), texts) {
			t.Errorf("book %d: %v are not enough", i, l)
		}
	}
	if some < 120 {
		t.Errorf("only %d books", some)
	}
}

// of is a book with only some of its pieces.
func of(b api.VoiceBook, pieces []int) api.VoiceBook {
	all := b.Pieces
	b.Pieces = nil
	for _, i := range pieces {
		b.Pieces = append(b.Pieces, all[i])
	}
	return b
}

// allSaid reports whether all texts can be said; with no pieces none can.
func allSaid(t *testing.T, b api.VoiceBook, texts [][]int) bool {
	t.Helper()
	for _, x := range texts {
		_, e := voice.Fewest(b, x)
		if len(b.Pieces) == 0 || e == api.ErrNone {
			return false
		}
		if e != api.OK {
			t.Fatalf("Fewest: %d", e)
		}
	}
	return true
}

// P5.8: with more pieces in a book no more are needed, and what can be said still can be.
func TestMorePieces(t *testing.T) {
	r := rand.New(rand.NewSource(32))
	for i, q := range many(300) {
		if len(q.b.Pieces) == 10 {
			continue
		}
		other := drawnBook(r, 1, 1, 1, 4).Pieces[0].Words
		from := r.Intn(len(q.text))
		for _, words := range [][]int{other, q.text[from:min(from+1+r.Intn(4), len(q.text))]} {
			b := with(q.b, piece(0, 0, 1, words...))
			l, e := voice.Fewest(q.b, q.text)
			m, f := voice.Fewest(b, q.text)
			if e == api.OK && (f != api.OK || len(m) > len(l)) {
				t.Errorf("book %d: %v, and with a piece more %v, %d", i, l, m, f)
			}
			set, e := voice.Needed(q.b, [][]int{q.text})
			more, f := voice.Needed(b, [][]int{q.text})
			if e == api.OK && (f != api.OK || len(more) > len(set)) {
				t.Errorf("book %d: %v are needed, and with a piece more %v, %d", i, set, more, f)
			}
			plan, e := voice.Plan(q.b, q.text, q.from, q.pip)
			now, f := voice.Plan(b, q.text, q.from, q.pip)
			if e == api.OK && (f != api.OK || len(now) > len(plan)) {
				t.Errorf("book %d: the plan %v, and with a piece more %v, %d", i, plan, now, f)
			}
		}
	}
}

// P5.4, P5.5: what is told of small books, by all plans.
func TestPlansOfSmallBooks(t *testing.T) {
	planned := 0
	for i, q := range tiny(800) {
		want := listed(q)
		checkPlans(t, i, q, want)
		if m := marked(q); m != want {
			t.Errorf("the models, %d: %v, %v", i, want, m)
		}
		if want.pieces > 1 {
			planned++
		}
	}
	if planned < 100 {
		t.Errorf("only %d plans", planned)
	}
}

// P5.5, P5.9: what is told of drawn books, by the marked times.
func TestPlansOfDrawnBooks(t *testing.T) {
	planned, none := 0, 0
	for i, q := range many(1000) {
		want := marked(q)
		checkPlans(t, i, q, want)
		if want.pieces > 1 {
			planned++
		} else if want == noPlan {
			none++
		}
	}
	if planned < 150 || none < 200 {
		t.Errorf("only %d plans, %d texts without one", planned, none)
	}
}

// planned are those of many questions to which there is a plan, with one.
func planned(t *testing.T, count int, each func(i int, q question, plan []api.VoiceStart)) {
	t.Helper()
	found := 0
	for i, q := range many(count) {
		plan, e := voice.Plan(q.b, q.text, q.from, q.pip)
		if e == api.OK {
			found++
			each(i, q, plan)
		} else if e != api.ErrNone {
			t.Fatalf("Plan %d: %d", i, e)
		}
	}
	if found < count/4 {
		t.Errorf("only %d plans", found)
	}
}

// is reports whether a list is told to be a plan.
func is(t *testing.T, q question, plan []api.VoiceStart) bool {
	t.Helper()
	return good[bool](t, "IsPlan")(voice.IsPlan(q.b, q.text, q.from, q.pip, plan))
}

// P5.9: a plan that is told is one, and begins no later than the latest time; just then one begins, and none later.
func TestThePip(t *testing.T) {
	longer := 0
	planned(t, 1000, func(i int, q question, plan []api.VoiceStart) {
		latest := good[int](t, "Latest")(voice.Latest(q.b, q.text, q.from, q.pip))
		if !is(t, q, plan) || plan[0].At > latest {
			t.Errorf("book %d: the plan %v, and %d at the latest", i, plan, latest)
		}
		q.from = latest
		last := good[[]api.VoiceStart](t, "Plan")(voice.Plan(q.b, q.text, q.from, q.pip))
		if !is(t, q, last) || last[0].At != latest || len(last) < len(plan) {
			t.Errorf("book %d: the latest plan %v, at %d", i, last, latest)
		}
		if len(last) > len(plan) {
			longer++
		}
		q.from++
		if l, e := voice.Plan(q.b, q.text, q.from, q.pip); q.from <= q.pip && e != api.ErrNone {
			t.Errorf("book %d: a later plan %v than at %d, %d", i, l, latest, e)
		}
	})
	if longer < 10 {
		t.Errorf("only %d latest plans with more pieces", longer)
	}
}

// P5.4: a plan with one thing changed is one only if the chapter says so.
func TestPlansNearby(t *testing.T) {
	planned(t, 300, func(i int, q question, plan []api.VoiceStart) {
		for k, x := range plan {
			for by := -3; by <= 3; by++ {
				for _, y := range []api.VoiceStart{{Piece: x.Piece, At: x.At + by}, {Piece: x.Piece + by, At: x.At}} {
					other := slices.Clone(plan)
					other[k] = y
					if is(t, q, other) != isPlan(q, other) {
						t.Errorf("book %d: %v", i, other)
					}
				}
			}
			for _, other := range [][]api.VoiceStart{plan[:k], plan[k:], slices.Insert(slices.Clone(plan), k, x), append(slices.Clone(plan), x)} {
				if is(t, q, other) != isPlan(q, other) {
					t.Errorf("book %d: %v", i, other)
				}
			}
		}
		for by := -4; by <= 4; by++ {
			q := q
			q.pip = max(q.pip+by, q.from)
			if q.pip-q.from <= 6100 && is(t, q, plan) != isPlan(q, plan) {
				t.Errorf("book %d: %v, to %d", i, plan, q.pip)
			}
		}
	})
}

// P5.10: a plan from a time is one from any sooner time, and not from one behind its beginning.
func TestSooner(t *testing.T) {
	r := rand.New(rand.NewSource(33))
	planned(t, 300, func(i int, q question, plan []api.VoiceStart) {
		for _, from := range []int{plan[0].At, max(0, q.pip-6100), max(0, q.pip-6100, q.from-r.Intn(500)), q.from - min(1, q.from)} {
			if now := (question{q.b, q.text, from, q.pip}); q.pip-from <= 6100 && !is(t, now, plan) {
				t.Errorf("book %d: %v is no plan from %d", i, plan, from)
			}
		}
		if late := (question{q.b, q.text, plan[0].At + 1, q.pip}); is(t, late, plan) {
			t.Errorf("book %d: %v is a plan from behind its beginning", i, plan)
		}
	})
}

// wider are the spans that go on to both sides, as far as they may.
func wider(s api.Span, by, most int) api.Span {
	return to(max(s.Low-by, 0), min(s.High+by, most))
}

// P5.10: with a wider Pause, or Rest, each plan still is one; no more pieces are needed, and the latest time is no sooner.
func TestWider(t *testing.T) {
	planned(t, 200, func(i int, q question, plan []api.VoiceStart) {
		latest := good[int](t, "Latest")(voice.Latest(q.b, q.text, q.from, q.pip))
		for by := 1; by < 600; by *= 7 {
			pause, rest := q, q
			pause.b.Pause, rest.b.Rest = wider(q.b.Pause, by, 200), wider(q.b.Rest, by, 500)
			for _, now := range []question{pause, rest} {
				l := good[[]api.VoiceStart](t, "Plan")(voice.Plan(now.b, now.text, now.from, now.pip))
				n := good[int](t, "Latest")(voice.Latest(now.b, now.text, now.from, now.pip))
				if !is(t, now, plan) || len(l) > len(plan) || n < latest {
					t.Errorf("book %d, wider by %d: %v and %d instead of %v and %d", i, by, l, n, plan, latest)
				}
			}
		}
	})
}

// common is the least number that can be divided by all turns.
func common(turns []int) int {
	all := 1
	for _, n := range turns {
		a, b := all, n
		for b != 0 {
			a, b = b, a%b
		}
		all *= n / a
	}
	return all
}

// P5.10: a plan whose pieces all begin so much later is one from a time, and to a pip, so much later, if all discs turn round in it.
func TestMovedPlans(t *testing.T) {
	moved := 0
	planned(t, 300, func(i int, q question, plan []api.VoiceStart) {
		round := common(q.b.Discs)
		for _, by := range []int{round, 3 * round, -round} {
			now := question{q.b, q.text, q.from + by, q.pip + by}
			if now.from < 0 || now.pip > 100000000 {
				continue
			}
			moved++
			later := slices.Clone(plan)
			for k := range later {
				later[k].At += by
			}
			if !is(t, now, later) {
				t.Errorf("book %d: %v is no plan", i, later)
			}
			l := good[[]api.VoiceStart](t, "Plan")(voice.Plan(now.b, now.text, now.from, now.pip))
			n := good[int](t, "Latest")(voice.Latest(now.b, now.text, now.from, now.pip))
			if before := good[int](t, "Latest")(voice.Latest(q.b, q.text, q.from, q.pip)); len(l) != len(plan) || n != before+by {
				t.Errorf("book %d: %v and %d, and later by %d %v and %d", i, plan, before, by, l, n)
			}
		}
	})
	if moved < 60 {
		t.Errorf("only %d plans", moved)
	}
}

// P5.6, P5.11: each announcement says the reading of the tick of its own pip; their ticks are those that the calendar tells, with decrees and without.
func TestAnnouncements(t *testing.T) {
	said := 0
	for _, b := range []api.VoiceBook{hour(to(0, 60), to(0, 90)), hour(to(0, 200), to(0, 500)), hour(to(20, 40), to(100, 130)), free(to(0, 9), to(0, 9), []int{0}, []int{1, 100}, []int{100}, []int{101, 203}, []int{101}, []int{200}, []int{205}, []int{206})} {
		for i, c := range calendars() {
			for tick := range good[int](t, "Total")(dial.Total(c)) {
				each := []int{1, 2, 3, 5, 6, 60, 1}[tick%7]
				l := good[[]int](t, "Day")(voice.Day(b, c, tick, each, 1+tick%5))
				if want := byPlans(t, b, c, tick, each, 1+tick%5); !slices.Equal(l, want) {
					t.Errorf("calendar %d: from %d by %d: %v instead of %v", i, tick, each, l, want)
				}
				for _, n := range l {
					said += max(n, 0)
				}
			}
		}
	}
	if said < 500 {
		t.Errorf("only %d pieces", said)
	}
}

// byPlans is what Day tells, by what dial tells, and the plans.
func byPlans(t *testing.T, b api.VoiceBook, c api.DialCalendar, tick, each, many int) []int {
	t.Helper()
	var list []int
	for len(list) < many {
		next, e := dial.Next(c, tick+1, each)
		if e != api.OK {
			break
		}
		words := good[[]int](t, "Words")(voice.Words(good[api.DialReading](t, "Reading")(dial.Reading(c, next))))
		plan, e := voice.Plan(b, words, 100*tick, 100*next)
		if e != api.OK && e != api.ErrNone {
			t.Fatalf("Plan: %d", e)
		}
		if e == api.ErrNone {
			list = append(list, -1)
		} else {
			list = append(list, len(plan))
		}
		tick = next
	}
	return list
}

// P5.6: announcements by listed readings and marked times; with minutes that are as long as they can be, too.
func TestDrawnDays(t *testing.T) {
	r := rand.New(rand.NewSource(34))
	long := api.DialCalendar{Hours: 2, Minutes: 2, Seconds: 60, Days: 2, Decrees: []api.DialDecree{{Day: 0, Plus: true}, {Day: 1}}}
	said := 0
	for i := range 120 {
		pause, rest := r.Intn(40), r.Intn(60)
		b := hour(to(pause, pause+r.Intn(100)), to(rest, rest+r.Intn(100)))
		c := slices.Concat(calendars(), []api.DialCalendar{long})[i%5]
		tick, each, many := r.Intn(len(readings(c))), []int{1 + r.Intn(6), 1 + r.Intn(60)}[i%2], 1+r.Intn(20)
		l := good[[]int](t, "Day")(voice.Day(b, c, tick, each, many))
		if want := announced(b, c, tick, each, many); !slices.Equal(l, want) {
			t.Errorf("day %d: from %d by %d: %v instead of %v", i, tick, each, l, want)
		}
		for _, n := range l {
			said += max(n, 0)
		}
	}
	if said < 50 {
		t.Errorf("only %d pieces", said)
	}
}

// P5.6: the last announcement of the longest calendar; its times are far greater than any window.
func TestLastDay(t *testing.T) {
	c := api.DialCalendar{Hours: 24, Minutes: 60, Seconds: 60, Days: 10}
	for day := range 10 {
		c.Decrees = append(c.Decrees, api.DialDecree{Day: day, Plus: true})
	}
	b := free(to(0, 9), to(0, 9), []int{23}, []int{159}, []int{255}, []int{260})
	for tick, want := range map[int][]int{863949: {-1, -1, -1, -1, -1, -1, -1, -1, -1, -1, 3, 3}, 864003: {3, 3}, 864004: {3}, 864009: nil} {
		if l := good[[]int](t, "Day")(voice.Day(b, c, tick, 5, 20)); !slices.Equal(l, want) {
			t.Errorf("from %d: %v", tick, l)
		}
	}
}

// callAll calls all functions.
func callAll(q question, c api.DialCalendar, n int, plan []api.VoiceStart) {
	voice.Check(q.b)
	voice.Words(api.DialReading{Day: n, Hour: q.from, Minute: q.pip, Second: n})
	byText(q.b, q.text)
	voice.Needed(q.b, [][]int{q.text, q.text[:len(q.text)/2], q.text})
	byTimes(q.b, q.text, q.from, q.pip, plan)
	byDay(q.b, c, q.from, q.pip, n)
	byDay(q.b, c, n, 1+n%7, 1+n%9)
}

// roomy is a list with room behind it, in which something lies.
func roomy[T any](list []T, behind T) []T {
	return append(slices.Clone(list), behind, behind, behind)[:len(list)]
}

// whole is a list with all that lies behind it.
func whole[T any](list []T) []T { return slices.Clone(list[:cap(list)]) }

// P5.7: arguments are not changed, nor is what lies behind their lists.
func TestArgumentsAreOnlyRead(t *testing.T) {
	q := question{book(), roomy(text(), 1), 0, 60}
	q.b.Discs, q.b.Pieces = roomy(q.b.Discs, 7), roomy(q.b.Pieces, piece(0, 0, 1, 1))
	for i, p := range q.b.Pieces {
		q.b.Pieces[i].Words = roomy(p.Words, 205)
	}
	c := calendars()[3]
	c.Decrees = roomy(c.Decrees, api.DialDecree{Day: 9})
	plan := roomy(at(2, 32, 3, 47), api.VoiceStart{Piece: 3, At: 57})
	texts := roomy([][]int{roomy(text(), 1), roomy([]int{102}, 7)}, []int{1})
	all := func() []any {
		list := []any{whole(q.text), whole(q.b.Discs), copied(api.VoiceBook{Pieces: whole(q.b.Pieces)}), whole(c.Decrees), whole(plan), whole(texts), whole(texts[0]), whole(texts[1])}
		for _, p := range q.b.Pieces {
			list = append(list, whole(p.Words))
		}
		return list
	}
	before := all()
	for n := range 30 {
		callAll(q, c, n, plan)
		callAll(q, c, n, plan[:1])
	}
	voice.Needed(q.b, texts)
	if !reflect.DeepEqual(all(), before) {
		t.Errorf("an argument has changed: %v instead of %v", all(), before)
	}
}

// checkNew checks that a result shares no memory with another one.
func checkNew[T comparable](t *testing.T, name string, ask func() ([]T, api.Errno)) {
	t.Helper()
	first, second := good[[]T](t, name)(ask()), good[[]T](t, name)(ask())
	want := slices.Clone(second)
	var other T
	longer := append(first, other)
	clear(longer)
	clear(first)
	if third := good[[]T](t, name)(ask()); len(want) == 0 || !slices.Equal(second, want) || !slices.Equal(third, want) {
		t.Errorf("%s: a result shares memory: %v, %v", name, second, third)
	}
}

// P5.7: results are new memory, which no argument and no other result shares.
func TestResultsAreNew(t *testing.T) {
	b, words := book(), text()
	checkNew(t, "Words", func() ([]int, api.Errno) { return voice.Words(api.DialReading{Hour: 3, Minute: 4, Second: 5}) })
	checkNew(t, "Fewest", func() ([]int, api.Errno) { return voice.Fewest(b, words) })
	checkNew(t, "Needed", func() ([]int, api.Errno) { return voice.Needed(b, [][]int{words, {102}}) })
	checkNew(t, "Plan", func() ([]api.VoiceStart, api.Errno) { return voice.Plan(b, words, 0, 60) })
	checkNew(t, "Day", func() ([]int, api.Errno) { return voice.Day(b, calendars()[0], 0, 5, 9) })
	if !reflect.DeepEqual(b, book()) || !slices.Equal(words, text()) {
		t.Error("a result shares memory with an argument")
	}
}

// P5.7: arguments are not retained: when they change, what was told stays.
func TestArgumentsAreNotKept(t *testing.T) {
	b, words := book(), text()
	plan := good[[]api.VoiceStart](t, "Plan")(voice.Plan(b, words, 0, 60))
	fewest := good[[]int](t, "Fewest")(voice.Fewest(b, words))
	before, list := slices.Clone(plan), slices.Clone(fewest)
	clear(words)
	clear(b.Pieces)
	clear(b.Discs)
	if !slices.Equal(plan, before) || !slices.Equal(fewest, list) {
		t.Error("a result has changed with an argument")
	}
}

// R3: between a nil list and an empty one there is no difference.
func TestNilAndEmpty(t *testing.T) {
	for i, change := range []func(b *api.VoiceBook){
		func(b *api.VoiceBook) { b.Discs = []int{} },
		func(b *api.VoiceBook) { b.Pieces = []api.VoicePiece{} },
		func(b *api.VoiceBook) { b.Pieces[0].Words = []int{} },
	} {
		if e := voice.Check(changed(change)); e != api.ErrVoice {
			t.Errorf("an empty list, %d: %d", i, e)
		}
	}
	c := calendars()[0]
	c.Decrees = []api.DialDecree{}
	if a, b := good[[]int](t, "Day")(voice.Day(book(), c, 0, 1, 20)), good[[]int](t, "Day")(voice.Day(book(), calendars()[0], 0, 1, 20)); !slices.Equal(a, b) {
		t.Errorf("an empty list of decrees is not like none: %v, %v", a, b)
	}
	checkErrors(t, "an empty text", byText(book(), []int{}), api.ErrVoiceText)
	checkErrors(t, "an empty plan", byTimes(book(), text(), 0, 60, []api.VoiceStart{})[:1], api.OK)
	if _, e := voice.Needed(book(), [][]int{}); e != api.ErrVoiceText {
		t.Errorf("no texts: %d", e)
	}
}

// P1: no function panics, whatever it gets.
func TestAnyArguments(t *testing.T) {
	numbers := []int{math.MinInt, math.MinInt + 1, -6101, -2, -1, 0, 1, 2, 9, 10, 16, 60, 99, 100, 300, 6100, 6101, 99999999, 100000000, math.MaxInt - 1, math.MaxInt}
	books := slices.Concat(wrongBooks(), []api.VoiceBook{book(), fullBook(), fastBook()})
	for i, n := range numbers {
		m := numbers[(i+8)%len(numbers)]
		books = append(books, api.VoiceBook{Discs: []int{n, m}, Pieces: []api.VoicePiece{piece(m, n, m, n), piece(n, m, n, m)}, Pause: to(n, m), Rest: to(m, n)}, changed(func(b *api.VoiceBook) { b.Pieces[0] = piece(1, n, m, n, m) }))
	}
	for k, b := range books {
		for i, n := range numbers {
			m := numbers[(i+k)%len(numbers)]
			words := [][]int{nil, {n}, {m, n}, text(), make([]int, 9)}[i%5]
			c := api.DialCalendar{Hours: n, Minutes: m, Seconds: n, Days: m}
			if i%2 == 0 {
				c = calendars()[i%4]
			}
			callAll(question{b, words, n, m}, c, m, at(n, m, m, n))
			callAll(question{b, text(), 0, 60}, c, n, at(2, n, 3, m))
			callAll(question{b, text(), 0, 60}, c, n, at(n, 32, m, 47))
		}
	}
}

// P2: the same arguments have the same result, whatever was called before.
func TestSameResults(t *testing.T) {
	ask := func(q question) []any {
		plan, e := voice.Plan(q.b, q.text, q.from, q.pip)
		list, f := voice.Day(q.b, calendars()[1], 20, 3, 5)
		return []any{voice.Check(q.b), plan, e, list, f, byText(q.b, q.text), byTimes(q.b, q.text, q.from, q.pip, plan)}
	}
	questions := many(80)
	var first [][]any
	for _, q := range questions {
		first = append(first, ask(q))
	}
	for i := len(questions) - 1; i >= 0; i-- {
		if now := ask(questions[i]); !reflect.DeepEqual(now, first[i]) {
			t.Errorf("book %d: %v, and then %v", i, first[i], now)
		}
	}
}
