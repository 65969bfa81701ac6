package scale_test

import (
	"math"
	"math/rand"
	"reflect"
	"slices"
	"testing"

	"remontoir/api"
	"remontoir/scale"
)

// inside reports whether spans lie in others, one by one.
func inside(narrow, wide []api.Span) bool {
	return slices.EqualFunc(narrow, wide, func(a, b api.Span) bool { return b.Low <= a.Low && a.High <= b.High })
}

// rules are drawn rules, always the same ones, and some others.
func rules(count int) []api.ScaleRule {
	r := rand.New(rand.NewSource(7))
	list := []api.ScaleRule{plain, ruled(500, 500, 500), ruled(0, 0, 1), ruled(500, 0, 3), ruled(2, 9, 1)}
	for len(list) < count {
		list = append(list, drawnRule(r))
	}
	return list
}

// offsets are some around 0, and some far off.
func offsets() []int {
	list := []int{-20000, -19999, -7777, -1234, 999, 5000, 20000}
	for off := -70; off <= 70; off += 1 + off*off/90 {
		list = append(list, off)
	}
	return list
}

// P4.9: each number that is shown is at least 500 more than the one before it, for whatever keeps a rule.
func TestNeverBack(t *testing.T) {
	r := rand.New(rand.NewSource(8))
	for i, x := range rules(60) {
		steer := drawnSteer(r, x, r.Intn(201))
		from := []int{0, 10000000, r.Intn(10000001)}[i%3]
		list := good[[]int](t, "Shown")(scale.Shown(x, from, steer))
		if len(list) != len(steer)+1 || list[0] != from {
			t.Fatalf("rule %d: %d numbers for %d adjustments", i, len(list), len(steer))
		}
		for k, n := range steer {
			if more := list[k+1] - list[k]; more < 500 || more != 1000+n {
				t.Errorf("rule %d: %d more, with %d", i, more, n)
			}
		}
	}
	slowest := good[[]int](t, "Shown")(scale.Shown(ruled(0, 500, 500), 0, slices.Repeat([]int{-500}, 200)))
	if slowest[200] != 100000 {
		t.Errorf("the slowest scale shows %d", slowest[200])
	}
}

// P4.10: a plan brings the offset to 0, with no tick that breaks the rule, and what Reach tells says that no plan does with fewer ticks.
func TestMeeting(t *testing.T) {
	planned := 0
	for i, x := range rules(40) {
		for _, off := range offsets() {
			list, e := scale.Plan(x, off)
			if e == api.ErrNone {
				if s := good[api.Span](t, "Reach")(scale.Reach(x, 200)); has(s, -off) {
					t.Errorf("rule %d: no plan for %d", i, off)
				}
				continue
			}
			planned++
			if is, f := scale.IsPlan(x, off, list); !is || e != api.OK || f != api.OK {
				t.Errorf("rule %d: %v is no plan for %d", i, list, off)
			}
			now := off
			shown := good[[]int](t, "Shown")(scale.Shown(x, 0, list))
			for k, n := range shown[1:] {
				now += n - shown[k] - 1000
			}
			if now != 0 {
				t.Errorf("rule %d: off by %d, and then by %d", i, off, now)
			}
			for n := range len(list) {
				if has(good[api.Span](t, "Reach")(scale.Reach(x, n)), -off) {
					t.Errorf("rule %d: %d ticks for %d, but %d are enough", i, len(list), off, n)
				}
			}
		}
	}
	if planned < 500 {
		t.Errorf("only %d plans", planned)
	}
}

// P4.10: every number between the ends of Reach is the sum of such a list, which is lengthened by zeros where a shorter one will do.
func TestBetweenTheEndsOfReach(t *testing.T) {
	for i, x := range []api.ScaleRule{plain, ruled(3, 30, 7), ruled(11, 0, 2), ruled(20, 20, 20), ruled(6, 1, 1)} {
		for n := 0; n < 14; n++ {
			s := good[api.Span](t, "Reach")(scale.Reach(x, n))
			for all := s.Low; all <= s.High; all++ {
				list := good[[]int](t, "Plan")(scale.Plan(x, -all))
				if len(list) > n {
					t.Fatalf("rule %d: %v for %d, instead of %d ticks", i, list, all, n)
				}
				list = append(slices.Clone(list), make([]int, n-len(list))...)
				if is, e := scale.IsPlan(x, -all, list); !is || e != api.OK {
					t.Errorf("rule %d: %v is no list for %d", i, list, all)
				}
			}
		}
	}
}

// enough is how many ticks are enough for an offset; more than all of them, if there is no plan.
func enough(t *testing.T, x api.ScaleRule, off int) int {
	t.Helper()
	n, e := scale.Fewest(x, off)
	if e == api.ErrNone {
		return 201
	}
	return good[int](t, "Fewest")(n, e)
}

// P4.11: in more ticks no less is reached.
func TestMoreTicks(t *testing.T) {
	for i, x := range rules(40) {
		before := api.Span{}
		for n := range 201 {
			s := good[api.Span](t, "Reach")(scale.Reach(x, n))
			if !inside([]api.Span{before}, []api.Span{s}) {
				t.Errorf("rule %d: %v in %d ticks, and %v before", i, s, n, before)
			}
			before = s
		}
	}
}

// P4.11: with a greater Fast, Slow or Jerk no more ticks are needed, and no less is reached.
func TestGreaterRules(t *testing.T) {
	for i, x := range rules(16) {
		for _, by := range []int{1, 60} {
			fast, slow, jerk := x, x, x
			fast.Fast, slow.Slow, jerk.Jerk = min(x.Fast+by, 500), min(x.Slow+by, 500), min(x.Jerk+by, 500)
			for k, y := range []api.ScaleRule{fast, slow, jerk} {
				for _, off := range offsets() {
					if n, m := enough(t, x, off), enough(t, y, off); m > n {
						t.Errorf("rule %d, greater as %d by %d: %d ticks for %d instead of %d", i, k, by, m, off, n)
					}
				}
				for n := 0; n <= 200; n += 1 + n/9 {
					if a, b := good[api.Span](t, "Reach")(scale.Reach(x, n)), good[api.Span](t, "Reach")(scale.Reach(y, n)); !inside([]api.Span{a}, []api.Span{b}) {
						t.Errorf("rule %d, greater as %d by %d: %v in %d ticks instead of %v", i, k, by, b, n, a)
					}
				}
			}
		}
	}
}

// P4.11: with Fast and Slow exchanged the same is reached with the other sign, in as many ticks; the drift does not count.
func TestExchanged(t *testing.T) {
	for i, x := range rules(40) {
		y := ruled(x.Slow, x.Fast, x.Jerk)
		for n := range 201 {
			if a, b := good[api.Span](t, "Reach")(scale.Reach(x, n)), good[api.Span](t, "Reach")(scale.Reach(y, n)); b != minus(a) {
				t.Errorf("rule %d: %v in %d ticks, and exchanged %v", i, a, n, b)
			}
		}
		for _, off := range offsets() {
			if n, m := enough(t, x, off), enough(t, y, -off); n != m {
				t.Errorf("rule %d: %d ticks for %d, and exchanged %d", i, n, off, m)
			}
		}
	}
}

// P4.12: in every truth the offset at each tick is as told, and the scale off by no more than stated, and than the worst.
func TestStatedBound(t *testing.T) {
	for i, x := range samples(250) {
		_, most, e := scale.Worst(x.b)
		if e != api.OK {
			t.Fatalf("book %d: Worst: %d", i, e)
		}
		for tick, s := range spans(t, x.b) {
			n := x.truth[tick]
			if !has(s, n) {
				t.Errorf("book %d: at %d: %d is not in %v", i, tick, n, s)
			}
			if far := good[int](t, "Stated")(scale.Stated(x.b, tick)); n > far || -n > far || far > most || far != max(s.High, -s.Low) {
				t.Errorf("book %d: at %d: %d, but %d is stated, and %d at most", i, tick, n, far, most)
			}
		}
	}
}

// P4.12: both ends of what is told are so in a truth, which is found tick by tick; what is farther out is not.
func TestEndsAreTrue(t *testing.T) {
	r := rand.New(rand.NewSource(9))
	for i, x := range samples(120) {
		told := spans(t, x.b)
		tick := r.Intn(x.b.Ticks + 1)
		for _, n := range []int{told[tick].Low, told[tick].High} {
			if truth := through(x.b, told, tick, n); !isTruth(x.b, truth) {
				t.Errorf("book %d: %d at %d is in no truth: %v", i, n, tick, truth)
			}
		}
		if len(x.b.Looks) == 10 {
			continue
		}
		for n, want := range map[int]bool{told[tick].Low: true, told[tick].High: true, told[tick].Low - 1: false, told[tick].High + 1: false} {
			if within(n, -20000, 20000) && canBe(t, with(x.b, at(tick, n, n))) != want {
				t.Errorf("book %d: %d at %d, where %v is told: %v", i, n, tick, told[tick], !want)
			}
		}
	}
}

// through are offsets that go on from one at a tick to both sides, each the least one that is told of its tick and can follow, or come before.
func through(b api.ScaleBook, told []api.Span, tick, n int) []int {
	list := make([]int, b.Ticks+1)
	list[tick] = n
	for k := tick + 1; k <= b.Ticks; k++ {
		list[k] = max(told[k].Low, list[k-1]+change(b, k-1).Low)
	}
	for k := tick - 1; k >= 0; k-- {
		list[k] = max(told[k].Low, list[k+1]-change(b, k).High)
	}
	return list
}

// P4.13: with a look more no span gets wider.
func TestLookMore(t *testing.T) {
	r := rand.New(rand.NewSource(10))
	for i, x := range samples(150) {
		if len(x.b.Looks) == 10 {
			continue
		}
		l := around(r, x.truth, r.Intn(x.b.Ticks+1), 8)
		before, now := spans(t, x.b), spans(t, with(x.b, l))
		if !inside(now, before) || !inside([]api.Span{now[l.Tick]}, []api.Span{l.Off}) {
			t.Errorf("book %d: with the look %v %v instead of %v", i, l, now, before)
		}
	}
}

// wider is a span that goes on to both sides, as far as it may.
func wider(s api.Span, by, most int) api.Span {
	return to(max(s.Low-by, -most), min(s.High+by, most))
}

// P4.13: with a wider Drift, or a wider look, no span gets narrower.
func TestWiderSpans(t *testing.T) {
	for i, x := range samples(80) {
		before := spans(t, x.b)
		for by := 1; by < 1000; by *= 10 {
			drift, looks := copied(x.b), copied(x.b)
			drift.Rule.Drift = wider(x.b.Rule.Drift, by, 100)
			for k, l := range x.b.Looks {
				looks.Looks[k].Off = wider(l.Off, by, 20000)
			}
			if !inside(before, spans(t, drift)) {
				t.Errorf("book %d: a span is narrower with a drift that is wider by %d", i, by)
			}
			if !inside(before, spans(t, looks)) {
				t.Errorf("book %d: a span is narrower with looks that are wider by %d", i, by)
			}
		}
	}
}

// P4.13: a look that is told twice, and the order of looks, change nothing.
func TestOrderOfLooks(t *testing.T) {
	for i, b := range many(200) {
		turned, twice := copied(b), copied(b)
		slices.Reverse(turned.Looks)
		if n := len(b.Looks); n > 0 && n < 10 {
			twice = with(b, b.Looks[i%n])
		}
		for _, c := range []api.ScaleBook{turned, twice} {
			if canBe(t, b) != canBe(t, c) || canBe(t, b) && !slices.Equal(spans(t, b), spans(t, c)) || !slices.Equal(byBook(b), byBook(c)) {
				t.Errorf("book %d: something else is told", i)
			}
		}
	}
}

// P4.13: from one tick to the next one, and back, no end changes by more than the adjustment and the drift.
func TestFromTickToTick(t *testing.T) {
	for i, x := range samples(200) {
		told := spans(t, x.b)
		for tick := range x.b.Ticks {
			s := change(x.b, tick)
			if !inside(told[tick+1:tick+2], []api.Span{plus(told[tick], s)}) || !inside(told[tick:tick+1], []api.Span{plus(told[tick+1], minus(s))}) {
				t.Errorf("book %d: at %d %v, and then %v, with %v", i, tick, told[tick], told[tick+1], s)
			}
		}
	}
}

// P4.14: whatever the offset truly is at the last tick, a plan for it needs no more ticks than are surely enough, and no fewer than at best; without looks near the last tick, too.
func TestBehindTheLastTick(t *testing.T) {
	met := 0
	for i, x := range samples(250) {
		surely, best, e := scale.Meets(x.b)
		last := good[api.Span](t, "Error")(scale.Error(x.b, x.b.Ticks))
		for _, off := range []int{x.truth[x.b.Ticks], last.Low, last.High, (last.Low + last.High) / 2} {
			n, f := scale.Fewest(x.b.Rule, off)
			if e == api.OK && (f != api.OK || n > surely || n < best) {
				t.Errorf("book %d: %d needs %d ticks, not from %d to %d", i, off, n, best, surely)
			}
		}
		if e == api.OK {
			met++
		} else if e != api.ErrNone || enough(t, x.b.Rule, last.Low) < 201 && enough(t, x.b.Rule, last.High) < 201 {
			t.Errorf("book %d: Meets: %d", i, e)
		}
	}
	if met < 60 {
		t.Errorf("only %d books meet true time", met)
	}
}

// callAll calls all functions.
func callAll(b api.ScaleBook, n int, list []int) {
	scale.Check(b)
	byTick(b, n)
	byBook(b)
	byRule(b.Rule, n, list)
}

// roomy is a book whose lists have room behind them.
func roomy(b api.ScaleBook) api.ScaleBook {
	b.Steer = append(append(make([]int, 0, 9), b.Steer...), 77)[:len(b.Steer)]
	b.Looks = append(append(make([]api.ScaleLook, 0, 19), b.Looks...), at(7, 7, 7))[:len(b.Looks)]
	return b
}

// behind is all that lies in the room of a book's lists.
func behind(b api.ScaleBook) api.ScaleBook {
	b.Steer, b.Looks = b.Steer[:cap(b.Steer)], b.Looks[:cap(b.Looks)]
	return copied(b)
}

// P4.8: arguments are not changed, nor is what lies behind their lists.
func TestArgumentsAreOnlyRead(t *testing.T) {
	for _, b := range []api.ScaleBook{roomy(book()), roomy(torn()), roomy(sharpBook()), roomy(fullBook())} {
		before := behind(b)
		for n := range 12 {
			callAll(b, n, b.Steer)
		}
		if !reflect.DeepEqual(behind(b), before) {
			t.Error("a book has changed")
		}
	}
	plan := append([]int{4, 8, 4, 4}, 77)[:4]
	for _, off := range []int{-20, 0, 7} {
		callAll(book(), off, plan)
	}
	if all := plan[:5]; !slices.Equal(all, []int{4, 8, 4, 4, 77}) {
		t.Errorf("the plan has changed: %v", all)
	}
}

// P4.8: results are new memory, which no argument and no other result shares.
func TestResultsAreNew(t *testing.T) {
	steer := append([]int{4, 8}, 77, 77)[:2]
	for name, ask := range map[string]func() ([]int, api.Errno){
		"Plan":           func() ([]int, api.Errno) { return scale.Plan(plain, 20) },
		"an empty Plan":  func() ([]int, api.Errno) { return scale.Plan(plain, 0) },
		"Shown":          func() ([]int, api.Errno) { return scale.Shown(plain, 7000, steer) },
		"Shown, nothing": func() ([]int, api.Errno) { return scale.Shown(plain, 7000, nil) },
	} {
		first, second := good[[]int](t, name)(ask()), good[[]int](t, name)(ask())
		want := slices.Clone(second)
		longer := append(first, 9)
		clear(longer)
		clear(first)
		if third := good[[]int](t, name)(ask()); !slices.Equal(second, want) || !slices.Equal(third, want) {
			t.Errorf("%s: a result shares memory: %v, %v", name, second, third)
		}
	}
	shown := good[[]int](t, "Shown")(scale.Shown(plain, 7000, steer))
	clear(steer[:4])
	if !slices.Equal(shown, []int{7000, 8004, 9012}) {
		t.Errorf("a result has changed with the argument: %v", shown)
	}
}

// R3: between a nil list and an empty one there is no difference.
func TestNilAndEmpty(t *testing.T) {
	b := ticks(plain, 9)
	empty := b
	empty.Steer, empty.Looks = []int{}, []api.ScaleLook{}
	if scale.Check(empty) != api.OK || !slices.Equal(spans(t, b), spans(t, empty)) || !slices.Equal(byBook(b), byBook(empty)) {
		t.Error("an empty list is not like none")
	}
	for _, n := range []int{-20001, 0, 1, 20001} {
		if !slices.Equal(byRule(plain, n, nil), byRule(plain, n, []int{})) {
			t.Errorf("an empty list is not like none, for %d", n)
		}
	}
}

// P1: no function panics, whatever it gets.
func TestAnyArguments(t *testing.T) {
	list := slices.Concat(many(10), small()[:6], []api.ScaleBook{book(), torn(), fullBook(), sharpBook()})
	for _, books := range []map[string]api.ScaleBook{wrongBooks(), falseBooks()} {
		for _, b := range books {
			list = append(list, b)
		}
	}
	numbers := []int{math.MinInt, math.MinInt + 1, -20001, -20000, -2, -1, 0, 1, 2, 9, 10, 11, 60, 61, 199, 200, 201, 20000, math.MaxInt - 1, math.MaxInt}
	for i, n := range numbers {
		m := numbers[(i+7)%len(numbers)]
		list = append(list, ticks(plain, n, m), ticks(drifting(ruled(n, m, n), to(m, n)), m), ticks(drifting(plain, to(n, m)), 3), ticks(plain, 3, n, m, n), with(book(), at(n, m, n)), with(book(), at(1, n, m)), with(book(), at(1, m, n)), with(book(), at(n, 1, m)))
	}
	for _, b := range list {
		for i, n := range numbers {
			m := numbers[(i+4)%len(numbers)]
			callAll(b, n, []int{n, m, n, m}[:i%5])
		}
		callAll(b, 0, make([]int, 300))
	}
}

// P2: the same arguments have the same result, whatever was called before.
func TestSameResults(t *testing.T) {
	ask := func(b api.ScaleBook) []any {
		s, e := scale.Error(b, b.Ticks/2)
		reach, f := scale.Reach(b.Rule, b.Ticks)
		shown, g := scale.Shown(b.Rule, 5, b.Steer)
		return []any{scale.Check(b), s, e, reach, f, slices.Clone(shown), g, byTick(b, b.Ticks), byBook(b), byRule(b.Rule, b.Ticks, b.Steer)}
	}
	list := many(60)
	var first [][]any
	for _, b := range list {
		first = append(first, ask(b))
	}
	for i := len(list) - 1; i >= 0; i-- {
		if now := ask(list[i]); !reflect.DeepEqual(now, first[i]) {
			t.Errorf("book %d: %v, and then %v", i, first[i], now)
		}
	}
}
