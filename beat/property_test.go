package beat_test

import (
	"math"
	"math/rand"
	"reflect"
	"slices"
	"testing"

	"remontoir/api"
	"remontoir/beat"
)

func offset(t *testing.T, c api.BeatCellar, clock, hour int) api.Span {
	t.Helper()
	return good[api.Span](t, "Offset")(beat.Offset(c, clock, hour))
}

func apart(t *testing.T, c api.BeatCellar, one, other, hour int) api.Span {
	t.Helper()
	return good[api.Span](t, "Apart")(beat.Apart(c, one, other, hour))
}

func drift(t *testing.T, c api.BeatCellar, clock, from, until int) api.Span {
	t.Helper()
	return good[api.Span](t, "Drift")(beat.Drift(c, clock, from, until))
}

// all are all spans that are told of a cellar, in an order.
func all(t *testing.T, c api.BeatCellar) []api.Span {
	t.Helper()
	var list []api.Span
	for clock := range c.Rates {
		for hour := range c.Hours + 1 {
			list = append(list, offset(t, c, clock, hour))
			for other := range clock {
				list = append(list, apart(t, c, clock, other, hour))
			}
			list = append(list, drift(t, c, clock, hour, (hour+1)%(c.Hours+1)))
		}
	}
	return list
}

// inside reports whether spans lie in others, one by one.
func inside(narrow, wide []api.Span) bool {
	return slices.EqualFunc(narrow, wide, func(a, b api.Span) bool { return b.Low <= a.Low && a.High <= b.High })
}

// plus is between what numbers of two spans lie, added up.
func plus(a, b api.Span) api.Span { return to(a.Low+b.Low, a.High+b.High) }

func has(s api.Span, n int) bool { return s.Low <= n && n <= s.High }

// sample is a cellar with a truth of it.
type sample struct {
	c     api.BeatCellar
	truth [][]int
}

// samples are drawn cellars, always the same ones.
func samples(count int) []sample {
	r := rand.New(rand.NewSource(2))
	var list []sample
	for range count {
		c, truth := drawn(r)
		list = append(list, sample{c, truth})
	}
	return list
}

// P2.4, P2.8: both ends that are told are so in a truth, and it is Case's, for each clock at each hour.
func TestCase(t *testing.T) {
	list := many(60)
	for _, cellars := range small() {
		list = append(list, cellars...)
	}
	list = append(list, cellar(), rates(12, make([]api.Span, 5)...), rates(2, to(-1000, 1000)))
	for i, c := range list {
		if _, e := beat.Offset(c, 0, 0); e == api.ErrBeatFalse {
			continue
		}
		for clock := range c.Rates {
			for hour := range c.Hours + 1 {
				told := offset(t, c, clock, hour)
				for most, want := range map[bool]int{true: told.High, false: told.Low} {
					rows := good[[][]int](t, "Case")(beat.Case(c, clock, hour, most))
					if is, e := beat.IsTruth(c, rows); !is || e != api.OK {
						t.Fatalf("cellar %d: Case of %d at %d: %v is no truth", i, clock, hour, rows)
					}
					if rows[clock][hour] != want {
						t.Errorf("cellar %d: Case of %d at %d: %d instead of %d", i, clock, hour, rows[clock][hour], want)
					}
				}
			}
		}
	}
}

// P2.8: whatever the offsets truly are, they and all differences lie between what is told.
func TestTheCellar(t *testing.T) {
	for i, x := range samples(20) {
		if is, e := beat.IsTruth(x.c, x.truth); !is || e != api.OK {
			t.Fatalf("cellar %d: %v is no truth", i, x.truth)
		}
		for clock, row := range x.truth {
			for hour, n := range row {
				if !has(offset(t, x.c, clock, hour), n) {
					t.Errorf("cellar %d: Offset of %d at %d", i, clock, hour)
				}
				for other := range x.truth {
					if !has(apart(t, x.c, clock, other, hour), n-x.truth[other][hour]) {
						t.Errorf("cellar %d: Apart of %d and %d at %d", i, clock, other, hour)
					}
				}
				for until := range row {
					if !has(drift(t, x.c, clock, hour, until), row[until]-n) {
						t.Errorf("cellar %d: Drift of %d from %d to %d", i, clock, hour, until)
					}
				}
			}
		}
	}
}

// P2.8: both ends of differences, too, are so in a truth: if one is told to be just this end, the cellar can still be true, and it cannot if it is told to be farther out.
func TestEndsOfDifferences(t *testing.T) {
	for i, x := range samples(40) {
		if len(x.c.Rates) < 2 || len(x.c.Pairs) == api.BeatPairs {
			continue
		}
		hour := i % (x.c.Hours + 1)
		s := apart(t, x.c, 0, 1, hour)
		for n, want := range map[int]api.Errno{s.Low: api.OK, s.High: api.OK, s.Low - 1: api.ErrBeatFalse, s.High + 1: api.ErrBeatFalse} {
			if n < -200000 || n > 200000 {
				continue
			}
			if _, e := beat.Offset(with(x.c, pair(hour, 0, 1, n, n)), 0, 0); e != want {
				t.Errorf("cellar %d: Apart at %d is %v, and if it is %d: %d", i, hour, s, n, e)
			}
		}
	}
}

// P2.9: with a comparison more no span gets wider.
func TestComparisonMore(t *testing.T) {
	r := rand.New(rand.NewSource(3))
	for i, x := range samples(25) {
		p, ok := told(r, x.c, x.truth, 5)
		if !ok || len(x.c.Pairs) == api.BeatPairs {
			continue
		}
		if more := with(x.c, p); !inside(all(t, more), all(t, x.c)) {
			t.Errorf("cellar %d: a span is wider with %v", i, p)
		}
	}
}

// P2.9: with a wider Rate, Step or Read no span gets narrower.
func TestWiderSpans(t *testing.T) {
	wider := func(s api.Span, by, most int) api.Span { return to(max(s.Low-by, -most), min(s.High+by, most)) }
	for i, x := range samples(12) {
		before := all(t, x.c)
		for by := 1; by < 1000; by *= 30 {
			rate, step, read := copied(x.c), copied(x.c), copied(x.c)
			k := i % len(x.c.Rates)
			rate.Rates[k] = wider(rate.Rates[k], by, 1000)
			for j := range step.Opens {
				step.Opens[j].Step = wider(step.Opens[j].Step, by, 100000)
			}
			for j := range read.Pairs {
				read.Pairs[j].Read = wider(read.Pairs[j].Read, by, 200000)
			}
			for _, c := range []api.BeatCellar{rate, step, read} {
				if !inside(before, all(t, c)) {
					t.Errorf("cellar %d: a span is narrower in %v", i, c)
				}
			}
		}
	}
}

// P2.9: a comparison that is told twice, or the other way round, and the order of comparisons and openings change nothing. P2.12: nor does an opening with a Step of 0.
func TestNothingChanges(t *testing.T) {
	for i, x := range samples(16) {
		before := all(t, x.c)
		turned, twice, still := copied(x.c), copied(x.c), copied(x.c)
		slices.Reverse(turned.Opens)
		slices.Reverse(turned.Pairs)
		if n := len(twice.Pairs); n > 0 && n < api.BeatPairs {
			twice = with(twice, twice.Pairs[i%n])
		}
		if len(still.Opens) < api.BeatOpens {
			still = withOpens(still, opened(i%len(still.Rates), i%still.Hours, 0, 0))
		}
		other := copied(x.c)
		for j, p := range other.Pairs {
			if p.Other >= 0 {
				other.Pairs[j] = pair(p.Hour, p.Other, p.One, -p.Read.High, -p.Read.Low)
			}
		}
		for j, c := range []api.BeatCellar{turned, twice, still, other} {
			if !slices.Equal(before, all(t, c)) {
				t.Errorf("cellar %d, changed as %d: a span has changed", i, j)
			}
		}
	}
	for i, c := range many(40) {
		turned := copied(c)
		slices.Reverse(turned.Opens)
		slices.Reverse(turned.Pairs)
		first, e := beat.Wrong(c)
		second, f := beat.Wrong(turned)
		if !slices.Equal(first, second) || e != f {
			t.Errorf("cellar %d: Wrong: %v, %d, and turned round %v, %d", i, first, e, second, f)
		}
	}
}

// P2.10: the other way round with the other sign; within the difference of what is told of both; over a third clock, or a third hour, nothing narrower.
func TestDifferences(t *testing.T) {
	for i, x := range samples(12) {
		minus := func(s api.Span) api.Span { return to(-s.High, -s.Low) }
		in := func(what string, a, b api.Span) {
			t.Helper()
			if !inside([]api.Span{a}, []api.Span{b}) {
				t.Errorf("cellar %d: %s: %v is not in %v", i, what, a, b)
			}
		}
		for hour := range x.c.Hours + 1 {
			for one := range x.c.Rates {
				for other := range x.c.Rates {
					s := apart(t, x.c, one, other, hour)
					if s != minus(apart(t, x.c, other, one, hour)) {
						t.Errorf("cellar %d: Apart of %d and %d at %d and the other way round", i, one, other, hour)
					}
					in("the difference", s, plus(offset(t, x.c, one, hour), minus(offset(t, x.c, other, hour))))
					third := (one + hour) % len(x.c.Rates)
					in("a third clock", s, plus(apart(t, x.c, one, third, hour), apart(t, x.c, third, other, hour)))
				}
				until, third := (hour*3+one)%(x.c.Hours+1), (hour*7+1)%(x.c.Hours+1)
				s := drift(t, x.c, one, hour, until)
				if s != minus(drift(t, x.c, one, until, hour)) {
					t.Errorf("cellar %d: Drift of %d from %d to %d and the other way round", i, one, hour, until)
				}
				in("the difference", s, plus(offset(t, x.c, one, until), minus(offset(t, x.c, one, hour))))
				in("a third hour", s, plus(drift(t, x.c, one, hour, third), drift(t, x.c, one, third, until)))
			}
		}
	}
}

// P2.11: without the clocks that are told there is a truth; without fewer, or ones before them, there is none.
func TestClocksThatMustBeWrong(t *testing.T) {
	for i, c := range many(60) {
		list := good[[]int](t, "Wrong")(beat.Wrong(c))
		left := without(c, list)
		rows := good[[][]int](t, "Case")(beat.Case(left, 0, 0, true))
		if is, e := beat.IsTruth(left, rows); !is || e != api.OK {
			t.Errorf("cellar %d: no truth without %v", i, list)
		}
		for _, set := range sets(len(c.Rates)) {
			if slices.Equal(set, list) {
				break
			}
			if _, e := beat.Offset(without(c, set), 0, 0); e != api.ErrBeatFalse {
				t.Errorf("cellar %d: without %v instead of %v: %d", i, set, list, e)
			}
		}
	}
}

// P2.12: from one hour to the next one a clock gains no more than its rate and its steps let it, and no less.
func TestGrowth(t *testing.T) {
	for i, x := range samples(60) {
		for clock := range x.c.Rates {
			for hour := range x.c.Hours {
				s, g := drift(t, x.c, clock, hour, hour+1), growth(x.c, clock, hour)
				if s.Low < g.Low || s.High > g.High {
					t.Errorf("cellar %d: Drift of %d in the hour %d: %v is not in %v", i, clock, hour, s, g)
				}
				rows := good[[][]int](t, "Case")(beat.Case(x.c, clock, hour, i%2 == 0))
				if n := rows[clock][hour+1] - rows[clock][hour]; !has(g, n) {
					t.Errorf("cellar %d: the clock %d gains %d in the hour %d", i, clock, n, hour)
				}
			}
		}
	}
}

// callAll calls all functions.
func callAll(c api.BeatCellar, rows [][]int, one, other, from, until int) {
	beat.Check(c)
	beat.IsTruth(c, rows)
	beat.Offset(c, one, from)
	beat.Apart(c, one, other, from)
	beat.Drift(c, one, from, until)
	beat.Case(c, one, from, true)
	beat.Case(c, other, until, false)
	beat.Wrong(c)
	beat.Best(c, from)
}

// roomy is a cellar whose lists have room behind them.
func roomy(c api.BeatCellar) api.BeatCellar {
	c.Rates = append(make([]api.Span, 0, 9), c.Rates...)
	c.Opens = append(make([]api.BeatOpen, 0, 9), c.Opens...)
	c.Pairs = append(make([]api.BeatPair, 0, 19), c.Pairs...)
	return c
}

// behind is all that lies in the room of a cellar's lists.
func behind(c api.BeatCellar) api.BeatCellar {
	c.Rates, c.Opens, c.Pairs = c.Rates[:cap(c.Rates)], c.Opens[:cap(c.Opens)], c.Pairs[:cap(c.Pairs)]
	return copied(c)
}

// P2.7: arguments are not changed, nor is what lies behind their lists, and a change of them later changes no result.
func TestArgumentsAreOnlyRead(t *testing.T) {
	for _, c := range []api.BeatCellar{roomy(cellar()), roomy(with(cellar(), torn))} {
		rows := [][]int{{100, 98, 98, 98}, {57, 58, 59, 60}, {65, 65, 65, 65}}
		before, rowsBefore := behind(c), rowsCopied(rows)
		callAll(c, rows, 0, 1, 1, 2)
		if !reflect.DeepEqual(behind(c), before) || !reflect.DeepEqual(rows, rowsBefore) {
			t.Error("an argument has changed")
		}
	}
	c := roomy(cellar())
	rows := good[[][]int](t, "Case")(beat.Case(c, 0, 0, true))
	want := rowsCopied(rows)
	clear(c.Rates)
	clear(c.Pairs)
	if !reflect.DeepEqual(rows, want) {
		t.Errorf("a result has changed with the arguments: %v", rows)
	}
}

// P2.7: results are new memory, and their rows share none.
func TestResultsAreNew(t *testing.T) {
	c := with(cellar(), pair(2, 0, -1, 100, 100))
	first := good[[][]int](t, "Case")(beat.Case(c, 0, 0, true))
	second := good[[][]int](t, "Case")(beat.Case(c, 0, 0, true))
	want := rowsCopied(second)
	for i := range first {
		first[i] = append(first[i], 7)
		clear(first[i][:cap(first[i])])
		for j := i + 1; j < len(first); j++ {
			if !slices.Equal(first[j], want[j]) {
				t.Errorf("the row %d shares memory with the row %d: %v", j, i, first[j])
			}
		}
	}
	clear(append(first, nil))
	if !reflect.DeepEqual(second, want) {
		t.Errorf("a result shares memory with another one: %v", second)
	}
	if third := good[[][]int](t, "Case")(beat.Case(c, 0, 0, true)); !reflect.DeepEqual(third, want) {
		t.Errorf("a result has been kept: %v", third)
	}
	list := good[[]int](t, "Wrong")(beat.Wrong(with(cellar(), torn)))
	clear(append(list, 7)[:1])
	list[0] = 9
	if again := good[[]int](t, "Wrong")(beat.Wrong(with(cellar(), torn))); !slices.Equal(again, []int{1}) {
		t.Errorf("a result has been kept: %v", again)
	}
}

// R3: between a nil list and an empty one there is no difference.
func TestNilAndEmpty(t *testing.T) {
	c := rates(2, to(0, 1), to(-1, 1))
	empty := c
	empty.Opens, empty.Pairs = []api.BeatOpen{}, []api.BeatPair{}
	if !slices.Equal(all(t, c), all(t, empty)) {
		t.Error("an empty list is not like none")
	}
}

// P1: no function panics, whatever it gets.
func TestAnyArguments(t *testing.T) {
	list := append(many(10), cellar(), fullCellar())
	for _, cellars := range []map[string]api.BeatCellar{wrongCellars(), falseCellars()} {
		for _, c := range cellars {
			list = append(list, c)
		}
	}
	numbers := []int{math.MinInt, math.MinInt + 1, -200001, -2, -1, 0, 1, 2, 3, 5, 12, 13, 100001, math.MaxInt - 1, math.MaxInt}
	for i, n := range numbers {
		m := numbers[(i+6)%len(numbers)]
		list = append(list, rates(n, to(0, 0)), rates(3, to(n, m)), rates(3, to(n, n)), withOpens(cellar(), opened(n, m, n, m)), withOpens(cellar(), opened(m, n, m, m)), with(cellar(), pair(n, m, n, m, n)), with(cellar(), pair(0, 0, n, m, m)), with(cellar(), pair(0, n, 0, n, n)))
	}
	for _, c := range list {
		for i, n := range numbers {
			m := numbers[(i+4)%len(numbers)]
			rows := slices.Repeat([][]int{{n, m, n, m}}, len(c.Rates))
			callAll(c, rows, n, m, m, n)
		}
		callAll(c, [][]int{nil, {1}, {}}, 0, 0, 0, 1)
	}
}

// P2: the same arguments have the same result, whatever was called before.
func TestSameResults(t *testing.T) {
	ask := func(c api.BeatCellar) []any {
		hour := c.Hours / 2
		s1, e1 := beat.Offset(c, 0, hour)
		s2, e2 := beat.Drift(c, 0, 0, hour)
		l, e3 := beat.Wrong(c)
		clock, wide, e4 := beat.Best(c, hour)
		return []any{s1, e1, s2, e2, slices.Clone(l), e3, clock, wide, e4}
	}
	list := many(40)
	var first [][]any
	for _, c := range list {
		first = append(first, ask(c))
	}
	for i := len(list) - 1; i >= 0; i-- {
		if now := ask(list[i]); !reflect.DeepEqual(now, first[i]) {
			t.Errorf("cellar %d: %v, and then %v", i, first[i], now)
		}
	}
}
