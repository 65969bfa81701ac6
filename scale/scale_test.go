package scale_test

import (
	"math"
	"math/rand"
	"slices"
	"testing"

	"remontoir/api"
	"remontoir/scale"
)

// wrongRules are rules that are not valid, each by one thing.
func wrongRules() map[string]api.ScaleRule {
	list := map[string]api.ScaleRule{"none": {}}
	for name, n := range map[string]int{"below 0": -1, "too great": 501, "the least": math.MinInt, "the greatest": math.MaxInt} {
		list["Fast "+name] = ruled(n, 5, 4)
		list["Slow "+name] = ruled(10, n, 4)
		list["Jerk "+name] = ruled(10, 5, n)
	}
	list["no Jerk"] = ruled(10, 5, 0)
	for name, s := range wrongSpans(100) {
		list["a drift "+name] = drifting(ruled(10, 5, 4), s)
	}
	return list
}

// wrongSpans are none that reach to a number on both sides, at most.
func wrongSpans(most int) map[string]api.Span {
	return map[string]api.Span{
		"too low": to(-most-1, most), "too high": to(-most, most+1), "before": to(-most-2, -most-1), "behind": to(most+1, most+2), "turned round": to(1, 0), "wholly turned round": to(most, -most),
		"far too low": to(math.MinInt, most), "far too high": to(-most, math.MaxInt), "far turned round": to(math.MaxInt, math.MinInt),
	}
}

// wrongSteers are adjustments that do not keep the rule of the chapter's examples, or are too many for its book.
func wrongSteers() map[string][]int {
	return map[string][]int{
		"too fast": {4, 8, 11}, "too slow": {-4, -6}, "too much at once": {4, 9}, "too much at once down": {4, 8, 3}, "through 0 at once": {3, -2}, "the first one too much": {5}, "the first one too little": {-5},
		"far too fast": {math.MaxInt}, "far too slow": {math.MinInt}, "far to both sides": {4, math.MinInt, math.MaxInt}, "the least behind another one": {-4, math.MinInt}, "11": make([]int, 11),
	}
}

// wrongLooks are looks that are none of the chapter's book.
func wrongLooks() map[string]api.ScaleLook {
	list := map[string]api.ScaleLook{"behind all ticks": at(11, 0, 0), "before all ticks": at(-1, 0, 0), "far behind": at(math.MaxInt, 0, 0), "far before": at(math.MinInt, 0, 0)}
	for name, s := range wrongSpans(20000) {
		list[name] = api.ScaleLook{Tick: 5, Off: s}
	}
	return list
}

// wrongBooks are books that are not valid, each by one thing.
func wrongBooks() map[string]api.ScaleBook {
	list := map[string]api.ScaleBook{
		"none":             {},
		"11 looks":         with(ticks(plain, 10), slices.Repeat([]api.ScaleLook{at(1, 0, 0)}, 11)...),
		"11 looks in all":  with(book(), slices.Repeat([]api.ScaleLook{at(6, -3, 4)}, 9)...),
		"fewer than Steer": ticks(plain, 2, -4, -5, -4),
	}
	for name, r := range wrongRules() {
		list["the rule: "+name] = ticks(r, 10)
	}
	for name, n := range map[string]int{"no ticks": 0, "ticks below 0": -1, "61 ticks": 61, "all ticks": math.MaxInt, "least ticks": math.MinInt} {
		list[name] = ticks(plain, n)
	}
	for name, l := range wrongSteers() {
		list["steered "+name] = ticks(plain, 10, l...)
	}
	for name, l := range wrongLooks() {
		list["a look "+name] = with(book(), l)
	}
	return list
}

// falseBooks are valid books that cannot be true.
func falseBooks() map[string]api.ScaleBook {
	calm := with(ticks(ruled(9, 9, 9), 10, 9, 0, -9), at(0, 0, 0))
	return map[string]api.ScaleBook{
		"torn":                    torn(),
		"two looks at a tick":     with(calm, at(0, 1, 1)),
		"two looks at a late one": with(ticks(plain, 60), at(60, 4, 5), at(60, 6, 7)),
		"not as it was steered":   with(calm, at(1, 8, 8)),
		"not back again":          with(calm, at(3, 1, 9)),
		"not as it goes on":       with(calm, at(10, 1, 1)),
		"gains too much":          with(ticks(plain, 60), at(0, 0, 0), at(60, 121, 130)),
		"loses too much":          with(ticks(plain, 60), at(60, -70, -61), at(0, 0, 0)),
		"farther than can be":     with(ticks(ruled(9, 9, 9), 1, 9), at(0, 19992, 20000)),
		"less than can be":        with(ticks(drifting(ruled(0, 0, 1), to(-100, -100)), 60), at(30, -20000, -17001)),
		"only one way":            with(ticks(plain, 4), at(1, 0, 0), at(3, -2, 4), at(2, 3, 3)),
	}
}

// fullBook is as great as a book can be.
func fullBook() api.ScaleBook {
	b := ticks(drifting(ruled(500, 500, 500), to(-100, 100)), 60)
	for i := range 60 {
		b.Steer = append(b.Steer, []int{500, 0, -500, 0}[i%4])
	}
	for i := range 10 {
		b.Looks = append(b.Looks, at(6*i+6, -20000, 20000))
	}
	return b
}

// sharpBook is one of which all is known.
func sharpBook() api.ScaleBook {
	return with(ticks(drifting(ruled(500, 500, 500), to(-7, -7)), 5, 500, 0, 20), at(2, -20000, 20000), at(5, -3, -3))
}

// asked is one call of a function with a book: its numbers, added up, and its error.
type asked struct {
	name string
	told int
	e    api.Errno
}

// byTick are all calls with a tick.
func byTick(b api.ScaleBook, tick int) []asked {
	s, e := scale.Error(b, tick)
	n, f := scale.Stated(b, tick)
	return []asked{{"Error", max(s.Low, -s.Low) + max(s.High, -s.High), e}, {"Stated", n, f}}
}

// byBook are all calls with a book alone, but Check.
func byBook(b api.ScaleBook) []asked {
	tick, off, e := scale.Worst(b)
	surely, best, f := scale.Meets(b)
	return []asked{{"Worst", tick + off, e}, {"Meets", surely + best, f}}
}

// byRule are all calls with a rule.
func byRule(r api.ScaleRule, n int, list []int) []asked {
	is, e := scale.IsPlan(r, n, list)
	s, f := scale.Reach(r, n)
	fewest, g := scale.Fewest(r, n)
	plan, h := scale.Plan(r, n)
	shown, i := scale.Shown(r, n, list)
	told := 0
	if is {
		told = 1
	}
	return []asked{{"IsPlan", told, e}, {"Reach", s.High - s.Low, f}, {"Fewest", fewest, g}, {"Plan", len(plan), h}, {"Shown", len(shown), i}}
}

func checkErrors(t *testing.T, where string, list []asked, e api.Errno) {
	t.Helper()
	for _, a := range list {
		if a.told != 0 || a.e != e {
			t.Errorf("%s: %s: %d, %d instead of %d", where, a.name, a.told, a.e, e)
		}
	}
}

// P4.1: which books are valid, and so which rules.
func TestCheck(t *testing.T) {
	for name, b := range wrongBooks() {
		if e := scale.Check(b); e != api.ErrScale {
			t.Errorf("%s: %d", name, e)
		}
	}
	for name, b := range falseBooks() {
		if e := scale.Check(b); e != api.OK {
			t.Errorf("%s: %d", name, e)
		}
	}
	edges := []api.ScaleBook{
		ticks(ruled(0, 0, 1), 1), ticks(drifting(ruled(500, 0, 500), to(-100, -100)), 60), ticks(drifting(ruled(0, 500, 1), to(100, 100)), 1, -1), ticks(plain, 3, 4, 8, 10), ticks(plain, 4, -4, -5, -1, 3), ticks(plain, 1, 4),
		with(ticks(plain, 1), at(0, -20000, -20000), at(1, 20000, 20000)), with(ticks(plain, 60), slices.Repeat([]api.ScaleLook{at(60, 7, 7)}, 10)...),
	}
	for i, b := range slices.Concat(many(60), edges, []api.ScaleBook{book(), fullBook(), sharpBook()}) {
		if e := scale.Check(b); e != api.OK {
			t.Errorf("the valid book %d: %d", i, e)
		}
	}
}

// P4.1, P1: all functions return ErrScale first, also where every other error applies, and zero values with it.
func TestWrongBookOrRuleFirst(t *testing.T) {
	for name, b := range wrongBooks() {
		for _, tick := range []int{-1, 0, 99, math.MaxInt} {
			checkErrors(t, name, byTick(b, tick), api.ErrScale)
		}
		checkErrors(t, name, byBook(b), api.ErrScale)
	}
	for name, r := range wrongRules() {
		for _, n := range []int{-20001, -1, 0, 1, 20001} {
			checkErrors(t, name, byRule(r, n, []int{4, math.MaxInt}), api.ErrScale)
			checkErrors(t, name, byRule(r, n, nil), api.ErrScale)
		}
	}
}

// P4.1 to P4.5, P1: wrong questions, and zero values with the error; of a book that cannot be true it is still the first one.
func TestWrongQuestions(t *testing.T) {
	for _, n := range []int{-20001, 20001, math.MinInt, math.MaxInt} {
		for _, list := range [][]int{nil, {4}, {math.MinInt}} {
			checkErrors(t, "far", byRule(plain, n, list)[:4], api.ErrScaleAsk)
		}
		checkErrors(t, "far, and no plan", byRule(ruled(0, 0, 1), n, nil)[2:4], api.ErrScaleAsk)
	}
	for _, n := range []int{-1, 201, 202} {
		checkErrors(t, "no ticks", byRule(plain, n, nil)[1:2], api.ErrScaleAsk)
	}
	for _, from := range []int{-1, 10000001, math.MinInt, math.MaxInt} {
		checkErrors(t, "no beginning", byRule(plain, from, nil)[4:], api.ErrScaleAsk)
	}
	for name, list := range wrongSteers() {
		if len(list) < 11 {
			checkErrors(t, name, byRule(plain, 0, list)[4:], api.ErrScaleAsk)
		}
	}
	checkErrors(t, "201 adjustments", byRule(plain, 0, make([]int, 201))[4:], api.ErrScaleAsk)
	for name, b := range map[string]api.ScaleBook{"true": book(), "torn": torn()} {
		for _, tick := range []int{-1, 11, 12, 60, 61, math.MinInt, math.MaxInt} {
			checkErrors(t, name, byTick(b, tick), api.ErrScaleAsk)
		}
	}
}

// P4.5, P4.6, P4.7, P1: of books that cannot be true nothing is told, whatever tick is asked about.
func TestFalseBooks(t *testing.T) {
	for name, b := range falseBooks() {
		for tick := range b.Ticks + 1 {
			checkErrors(t, name, byTick(b, tick), api.ErrScaleFalse)
		}
		checkErrors(t, name, byBook(b), api.ErrScaleFalse)
		b.Rule.Fast, b.Rule.Slow, b.Steer = 0, 0, nil // now there are no plans, too
		if !canBe(t, b) {
			checkErrors(t, name, byBook(b), api.ErrScaleFalse)
		}
	}
}

// P4.1: what is a plan, at its edges, of great lists, and of numbers so great that they wrap around.
func TestIsPlan(t *testing.T) {
	long := slices.Concat(make([]int, 100), []int{3}, make([]int, 99))
	for i, x := range []struct {
		r    api.ScaleRule
		off  int
		plan []int
		want bool
	}{
		{plain, -20, []int{4, 8, 4, 4}, true}, {plain, -20, []int{4, 8, 8}, false}, {plain, -20, []int{10, 10}, false}, {plain, 20, []int{-4, -5, -5, -4, -2}, true}, {plain, 20, []int{4, 8, 4, 4}, false}, {plain, -20, []int{-4, -5, -5, -4, -2}, false},
		{plain, 0, nil, true}, {plain, 0, []int{}, true}, {plain, 1, nil, false}, {plain, 0, []int{0}, true}, {plain, 0, []int{4, 0, -4}, true}, {plain, 0, []int{4, -4}, false}, {plain, -4, []int{4}, true}, {plain, -5, []int{5}, false}, {plain, 4, []int{-4}, true}, {plain, 5, []int{-5}, false},
		{plain, -42, []int{4, 8, 10, 9, 7, 4}, true}, {plain, -43, []int{4, 8, 11, 9, 7, 4}, false}, {plain, 18, []int{-4, -5, -5, -4}, true}, {plain, 19, []int{-4, -6, -5, -4}, false}, {plain, -17, []int{4, 8, 5}, false}, {plain, -16, []int{4, 8, 4}, true}, {plain, -16, []int{4, 9, 3}, false}, {plain, -17, []int{5, 8, 4}, false}, {plain, -15, []int{4, 8, 4}, false}, {plain, -17, []int{4, 8, 4}, false},
		{plain, 10, []int{-5, -5}, false}, {plain, 9, []int{-4, -5}, false}, {plain, 0, make([]int, 200), true}, {plain, 0, make([]int, 201), false}, {plain, -3, long, true}, {plain, -3, append(long, 0), false}, {plain, -3, append([]int{0}, long...), false}, {plain, 0, make([]int, 100000), false},
		{ruled(500, 500, 500), -20000, slices.Repeat([]int{500}, 40), true}, {ruled(500, 500, 500), 20000, slices.Repeat([]int{-500}, 40), true}, {ruled(500, 500, 500), 20000, slices.Repeat([]int{-500}, 41), false}, {ruled(500, 500, 499), 20000, slices.Repeat([]int{-500}, 40), false},
		{ruled(0, 0, 1), 0, make([]int, 7), true}, {ruled(0, 0, 1), -1, []int{1}, false}, {ruled(0, 0, 1), 1, []int{-1}, false}, {ruled(500, 0, 500), -500, []int{500}, true}, {ruled(500, 0, 500), 0, []int{500, 0, -500}, false},
		{plain, 0, []int{math.MinInt, math.MinInt}, false}, {plain, 0, []int{math.MaxInt, -math.MaxInt}, false}, {plain, 0, []int{4, math.MaxInt, math.MinInt, -3}, false}, {plain, 0, []int{math.MinInt}, false}, {plain, 1, []int{math.MaxInt, math.MinInt}, false}, {plain, 0, slices.Repeat([]int{1 << 62}, 4), false},
	} {
		if is, e := scale.IsPlan(x.r, x.off, x.plan); is != x.want || e != api.OK {
			t.Errorf("IsPlan %d: %v, %d", i, is, e)
		}
	}
}

// P4.1: all short lists of adjustments, those that keep small rules and those that nearly do.
func TestIsPlanOfAllLists(t *testing.T) {
	for _, r := range []api.ScaleRule{ruled(2, 1, 1), ruled(1, 3, 2), ruled(3, 0, 2), ruled(0, 2, 1), ruled(1, 1, 4), ruled(0, 0, 1)} {
		var list []int
		var try func()
		try = func() {
			for off := -sum(list) - 1; off <= -sum(list)+1; off++ {
				if is, e := scale.IsPlan(r, off, list); is != isPlan(r, off, list) || e != api.OK {
					t.Errorf("%v: IsPlan for %d: %v: %v, %d", r, off, list, is, e)
				}
			}
			for n := -r.Slow - 1; n <= r.Fast+1 && len(list) < 4; n++ {
				list = append(list, n)
				try()
				list = list[:len(list)-1]
			}
		}
		try()
	}
}

// P4.2, P4.3, P4.4: the examples of the chapter, and what is at the edges.
func TestReachAndFewest(t *testing.T) {
	for i, x := range []struct {
		r     api.ScaleRule
		ticks int
		want  api.Span
	}{
		{plain, 0, to(0, 0)}, {plain, 1, to(-4, 4)}, {plain, 2, to(-8, 8)}, {plain, 3, to(-13, 16)}, {plain, 4, to(-18, 24)}, {plain, 5, to(-23, 34)}, {plain, 199, to(-993, 1974)}, {plain, 200, to(-998, 1984)},
		{ruled(0, 0, 1), 200, to(0, 0)}, {ruled(500, 500, 500), 200, to(-100000, 100000)}, {ruled(500, 500, 500), 1, to(-500, 500)}, {ruled(500, 0, 1), 200, to(0, 10100)}, {ruled(0, 500, 1), 199, to(-10000, 0)}, {ruled(3, 1, 500), 2, to(-2, 6)},
	} {
		if s, e := scale.Reach(x.r, x.ticks); s != x.want || e != api.OK {
			t.Errorf("Reach %d: %v, %d", i, s, e)
		}
	}
	for i, x := range []struct {
		r         api.ScaleRule
		off, want int
		e         api.Errno
	}{
		{plain, 20, 5, api.OK}, {plain, -20, 4, api.OK}, {plain, 0, 0, api.OK}, {plain, 4, 1, api.OK}, {plain, 5, 2, api.OK}, {plain, -24, 4, api.OK}, {plain, -25, 5, api.OK}, {plain, -34, 5, api.OK}, {plain, -35, 6, api.OK},
		{plain, 993, 199, api.OK}, {plain, 994, 200, api.OK}, {plain, 998, 200, api.OK}, {plain, 999, 0, api.ErrNone}, {plain, 20000, 0, api.ErrNone}, {plain, -1984, 200, api.OK}, {plain, -1985, 0, api.ErrNone}, {plain, -20000, 0, api.ErrNone},
		{ruled(0, 0, 1), 0, 0, api.OK}, {ruled(0, 0, 1), 1, 0, api.ErrNone}, {ruled(0, 0, 1), -1, 0, api.ErrNone}, {ruled(500, 0, 500), -20000, 40, api.OK}, {ruled(500, 0, 500), 1, 0, api.ErrNone}, {ruled(0, 500, 500), 20000, 40, api.OK}, {ruled(0, 500, 500), 19501, 40, api.OK}, {ruled(0, 500, 500), 19500, 39, api.OK}, {ruled(0, 500, 500), -1, 0, api.ErrNone},
	} {
		if n, e := scale.Fewest(x.r, x.off); n != x.want || e != x.e {
			t.Errorf("Fewest %d: %d, %d", i, n, e)
		}
		if l, e := scale.Plan(x.r, x.off); len(l) != x.want || e != x.e || e == api.OK && !isPlan(x.r, x.off, l) {
			t.Errorf("Plan %d: %v, %d", i, l, e)
		}
	}
}

// P4.4: what is shown, at the edges.
func TestShown(t *testing.T) {
	for i, x := range []struct {
		r     api.ScaleRule
		from  int
		steer []int
		want  []int
	}{
		{plain, 7000, []int{4, 8}, []int{7000, 8004, 9012}}, {plain, 0, nil, []int{0}}, {plain, 10000000, []int{}, []int{10000000}}, {plain, 10000000, []int{-4, -5, -1, 3, 7, 10, 9}, []int{10000000, 10000996, 10001991, 10002990, 10003993, 10005000, 10006010, 10007019}},
		{ruled(500, 500, 500), 3, []int{500, 0, -500}, []int{3, 1503, 2503, 3003}}, {ruled(0, 0, 1), 5, []int{0}, []int{5, 1005}},
	} {
		if l, e := scale.Shown(x.r, x.from, x.steer); !slices.Equal(l, x.want) || e != api.OK {
			t.Errorf("Shown %d: %v, %d", i, l, e)
		}
	}
	if l, e := scale.Shown(plain, 0, make([]int, 200)); len(l) != 201 || l[200] != 200000 || e != api.OK {
		t.Errorf("Shown of 200 ticks: %v, %d", l, e)
	}
}

// P4.2, P4.3: of small rules all sums are collected.
func TestSmallRules(t *testing.T) {
	const most = 9
	for _, r := range smallRules() {
		all := sums(r, most)
		for n, now := range all {
			s := good[api.Span](t, "Reach")(scale.Reach(r, n))
			if !now[s.Low] || !now[s.High] || now[s.Low-1] || now[s.High+1] || len(now) != s.High-s.Low+1 {
				t.Errorf("%v: Reach of %d: %v, but there are %d sums", r, n, s, len(now))
			}
		}
		last := good[api.Span](t, "Reach")(scale.Reach(r, most))
		for off := -last.High; off <= -last.Low; off++ {
			want := slices.IndexFunc(all, func(now map[int]bool) bool { return now[-off] })
			if n, e := scale.Fewest(r, off); n != want || e != api.OK {
				t.Errorf("%v: Fewest for %d: %d, %d", r, off, n, e)
			}
			if l, e := scale.Plan(r, off); len(l) != want || !isPlan(r, off, l) || e != api.OK {
				t.Errorf("%v: Plan for %d: %v, %d", r, off, l, e)
			}
		}
		far := 0
		for n := most + 1; n <= 200; n++ {
			s := good[api.Span](t, "Reach")(scale.Reach(r, n))
			far = max(far, s.High)
		}
		if n, e := scale.Fewest(r, -far-1); n != 0 || e != api.ErrNone {
			t.Errorf("%v: Fewest for %d: %d, %d", r, -far-1, n, e)
		}
	}
}

// P4.2, P4.3: of drawn rules, and of those at the limits, all that is reached in up to 200 ticks, and offsets around the ends of it.
func TestManyRules(t *testing.T) {
	r := rand.New(rand.NewSource(6))
	list := []api.ScaleRule{plain, ruled(500, 500, 1), ruled(500, 499, 7), ruled(1, 500, 500), ruled(40, 3, 3)}
	for range 25 {
		list = append(list, drawnRule(r))
	}
	for _, x := range list {
		want := reaches(x)
		for n, s := range want {
			if got, e := scale.Reach(x, n); got != s || e != api.OK {
				t.Errorf("%v: Reach of %d: %v, %d instead of %v", x, n, got, e, s)
			}
		}
		for range 120 {
			s := want[r.Intn(201)]
			off := []int{-s.High, -s.Low, r.Intn(40001) - 20000}[r.Intn(3)] + r.Intn(3) - 1
			if within(off, -20000, 20000) {
				checkPlan(t, x, off, fewest(want, off))
			}
		}
	}
}

// checkPlan compares Fewest and Plan with how many ticks are the fewest, or -1.
func checkPlan(t *testing.T, x api.ScaleRule, off, want int) {
	t.Helper()
	n, e := scale.Fewest(x, off)
	l, f := scale.Plan(x, off)
	if want < 0 {
		if n != 0 || len(l) != 0 || e != api.ErrNone || f != api.ErrNone {
			t.Errorf("%v: for %d there is no plan, but %d, %d and %v, %d", x, off, n, e, l, f)
		}
		return
	}
	if n != want || e != api.OK {
		t.Errorf("%v: Fewest for %d: %d, %d instead of %d", x, off, n, e, want)
	}
	if len(l) != want || !isPlan(x, off, l) || f != api.OK {
		t.Errorf("%v: Plan for %d: %v, %d", x, off, l, f)
	}
}

// P4.5, P4.6, P4.7: the examples of the chapter.
func TestExamples(t *testing.T) {
	want := []api.Span{to(18, 22), to(13, 18), to(7, 12), to(2, 7), to(1, 6), to(0, 5), to(-1, 4), to(-2, 6), to(-3, 8), to(-4, 10), to(-5, 12)}
	if s := spans(t, book()); !slices.Equal(s, want) {
		t.Errorf("the spans: %v", s)
	}
	for tick, want := range map[int]int{0: 22, 3: 7, 10: 12} {
		if n, e := scale.Stated(book(), tick); n != want || e != api.OK {
			t.Errorf("Stated at %d: %d, %d", tick, n, e)
		}
	}
	if tick, off, e := scale.Worst(book()); tick != 0 || off != 22 || e != api.OK {
		t.Errorf("Worst: %d, %d, %d", tick, off, e)
	}
	if surely, best, e := scale.Meets(book()); surely != 3 || best != 0 || e != api.OK {
		t.Errorf("Meets: %d, %d, %d", surely, best, e)
	}
}

// P4.5: how far one look reaches, forwards and backwards, and that no offset is beyond what can be.
func TestError(t *testing.T) {
	calm, up := ruled(9, 9, 9), drifting(ruled(9, 9, 9), to(100, 100))
	for i, x := range []struct {
		b    api.ScaleBook
		tick int
		want api.Span
	}{
		{ticks(calm, 60), 30, to(-20000, 20000)}, {ticks(calm, 1, 4), 0, to(-20000, 19996)}, {ticks(calm, 1, 4), 1, to(-19996, 20000)}, {ticks(up, 60), 0, to(-20000, 14000)}, {ticks(up, 60), 60, to(-14000, 20000)}, {ticks(up, 60, 9, 9), 20, to(-17982, 16000)}, {ticks(plain, 2), 1, to(-20000, 20000)},
		{with(ticks(plain, 60), at(60, 0, 0)), 0, to(-120, 60)}, {with(ticks(plain, 60), at(0, 0, 0)), 60, to(-60, 120)}, {with(ticks(plain, 60), at(0, 0, 0), at(60, 120, 120)), 30, to(60, 60)}, {with(ticks(plain, 60), at(0, 0, 0), at(60, 117, 117)), 30, to(57, 60)}, {with(ticks(plain, 4), at(4, 20000, 20000)), 0, to(19992, 20000)}, {with(ticks(plain, 4), at(2, 5, 5), at(2, 0, 9)), 2, to(5, 5)}, {with(ticks(plain, 4), at(2, 0, 5), at(2, 3, 9)), 2, to(3, 5)}, {with(ticks(plain, 4), at(2, 0, 5), at(2, 3, 9)), 3, to(2, 7)}, {with(ticks(plain, 4), at(2, 0, 5), at(2, 3, 9)), 1, to(1, 6)},
		{sharpBook(), 0, to(-488, -488)}, {sharpBook(), 1, to(5, 5)}, {sharpBook(), 3, to(11, 11)}, {sharpBook(), 5, to(-3, -3)}, {fullBook(), 0, to(-20000, 19600)}, {fullBook(), 1, to(-19600, 20000)},
		{with(ticks(calm, 3, 9, 5), at(0, 1, 2)), 1, to(10, 11)}, {with(ticks(calm, 3, 9, 5), at(0, 1, 2)), 2, to(15, 16)}, {with(ticks(calm, 3, 9, 5), at(0, 1, 2)), 3, to(15, 16)}, {with(ticks(calm, 3, 9, 5), at(3, 1, 2)), 0, to(-13, -12)},
	} {
		if s, e := scale.Error(x.b, x.tick); s != x.want || e != api.OK {
			t.Errorf("Error %d: %v, %d instead of %v", i, s, e, x.want)
		}
		want := max(x.want.High, -x.want.High, x.want.Low, -x.want.Low)
		if n, e := scale.Stated(x.b, x.tick); n != want || e != api.OK {
			t.Errorf("Stated %d: %d, %d instead of %d", i, n, e, want)
		}
	}
}

// P4.6: the first one of several ticks, on either side, and a scale that is never off.
func TestWorst(t *testing.T) {
	calm := ruled(9, 9, 9)
	for i, x := range []struct {
		b         api.ScaleBook
		tick, off int
	}{
		{with(ticks(calm, 7), at(0, 0, 0)), 0, 0}, {with(ticks(calm, 7), at(3, -5, 5)), 0, 5}, {with(ticks(calm, 7), at(3, -5, 2)), 0, 5}, {with(ticks(calm, 7, 9, 1, -7), at(0, 0, 0)), 2, 10}, {with(ticks(calm, 7, -9, -1, 7), at(0, 0, 0)), 2, 10}, {with(ticks(calm, 4, 5, 0, -4, -7), at(0, 1, 1)), 1, 6}, {with(ticks(calm, 4, 5, 0, -4, -9), at(0, 1, 1)), 4, 7}, {with(ticks(calm, 4, 3, -5, -4, -4), at(0, 2, 2)), 4, 8},
		{with(ticks(plain, 60), at(0, 0, 0)), 60, 120}, {with(ticks(plain, 60), at(60, 0, 0)), 0, 120}, {with(ticks(plain, 60), at(0, 0, 0), at(60, 0, 0)), 20, 40}, {with(ticks(drifting(calm, to(-3, 3)), 5), at(2, 0, 0)), 5, 9}, {with(ticks(drifting(calm, to(-3, 3)), 4), at(2, 0, 0)), 0, 6}, {ticks(calm, 60), 0, 20000}, {ticks(calm, 2, 4), 0, 20000},
	} {
		if tick, off, e := scale.Worst(x.b); tick != x.tick || off != x.off || e != api.OK {
			t.Errorf("Worst %d: %d, %d, %d", i, tick, off, e)
		}
	}
}

// P4.7: on either side of 0, over it, and where some offset, or only the farther one, has no plan.
func TestMeets(t *testing.T) {
	last := func(r api.ScaleRule, low, high int) api.ScaleBook {
		return with(ticks(r, 3), at(3, low, high))
	}
	for i, x := range []struct {
		b            api.ScaleBook
		surely, best int
		e            api.Errno
	}{
		{last(plain, 0, 0), 0, 0, api.OK}, {last(plain, -5, 20), 5, 0, api.OK}, {last(plain, -34, 20), 5, 0, api.OK}, {last(plain, -35, 20), 6, 0, api.OK}, {last(plain, 9, 20), 5, 3, api.OK}, {last(plain, -34, -9), 5, 3, api.OK}, {last(plain, 20, 20), 5, 5, api.OK}, {last(plain, -20, -20), 4, 4, api.OK}, {last(plain, 0, 20), 5, 0, api.OK}, {last(plain, -20, 0), 4, 0, api.OK}, {last(plain, 1, 4), 1, 1, api.OK},
		{last(plain, -1984, 998), 200, 0, api.OK}, {last(plain, -1984, 999), 0, 0, api.ErrNone}, {last(plain, -1985, 998), 0, 0, api.ErrNone}, {last(plain, 998, 999), 0, 0, api.ErrNone}, {last(plain, -1985, -1984), 0, 0, api.ErrNone}, {last(plain, 2000, 20000), 0, 0, api.ErrNone},
		{last(ruled(0, 0, 1), 0, 0), 0, 0, api.OK}, {last(ruled(0, 0, 1), 0, 1), 0, 0, api.ErrNone}, {last(ruled(0, 0, 1), -1, 0), 0, 0, api.ErrNone}, {last(ruled(500, 0, 500), -20000, 0), 40, 0, api.OK}, {last(ruled(500, 0, 500), -20000, 1), 0, 0, api.ErrNone}, {last(ruled(0, 500, 500), 500, 20000), 40, 1, api.OK}, {last(ruled(0, 500, 500), -1, 20000), 0, 0, api.ErrNone},
		{ticks(plain, 3), 0, 0, api.ErrNone}, {ticks(ruled(500, 500, 500), 3), 40, 0, api.OK},
		// only what is at the last tick counts, with what the ticks before it tell of it
		{with(ticks(plain, 3, 4, 8, 10), at(0, 0, 0)), 6, 5, api.OK}, {with(ticks(plain, 3), at(0, -9, -9), at(3, -12, 20000)), 3, 1, api.OK},
	} {
		if surely, best, e := scale.Meets(x.b); surely != x.surely || best != x.best || e != x.e {
			t.Errorf("Meets %d: %d, %d, %d", i, surely, best, e)
		}
	}
}

// small are books whose truths are few.
func small() []api.ScaleBook {
	two, three := drifting(ruled(3, 2, 2), to(-1, 2)), drifting(ruled(9, 9, 9), to(-2, -1))
	one := with(ticks(two, 4, 2, 3, 1, -1), at(0, -2, 2))
	top := with(ticks(drifting(ruled(3, 2, 2), to(-1, 0)), 5, 1, 1, 1), at(0, 19996, 20000))
	deep := with(ticks(three, 4, 0, 1, 2), at(0, -20000, -19993))
	return []api.ScaleBook{
		one, with(one, at(4, 3, 3)), with(one, at(2, 3, 3)), with(one, at(2, -9, -9)), with(one, at(2, 2, 20000), at(3, -20000, 6)), with(one, at(4, 15, 15)), with(one, at(4, 16, 20)), with(one, at(0, 3, 9)), with(one, at(1, 0, 1), at(1, 2, 4)), with(one, at(1, 0, 2), at(1, 2, 4)), with(one, at(0, 0, 0), at(4, -20000, 1)), with(one, at(3, 6, 6), at(4, 4, 4)), with(one, at(3, 6, 6), at(4, 8, 8)), with(one, at(0, 1, 9), at(2, 6, 6), at(4, 4, 9), at(4, 5, 10)),
		with(ticks(two, 1), at(0, 7, 7)), with(ticks(two, 1, -2), at(0, 7, 7)), with(ticks(two, 6), at(0, 0, 1), at(3, -1, 0), at(6, 1, 3)), with(ticks(three, 6, 9, 0, -9, -2), at(0, 0, 1), at(5, -8, 5)), with(ticks(three, 6, -9, 0, 9, 2), at(0, 0, 1), at(5, -5, 5)), with(ticks(ruled(0, 0, 1), 60), at(0, -30, 30), at(60, -9, 100)),
		top, with(top, at(5, 20000, 20000)), with(top, at(5, 19998, 19999)), with(top, at(1, 19995, 19996)), deep, with(deep, at(4, -20000, -20000)), with(deep, at(4, -19999, -19998)), with(deep, at(4, -19996, -19000)),
	}
}

// P4.5, P4.6, P4.7: of small books all truths are listed.
func TestSmallBooks(t *testing.T) {
	lies := 0
	for i, b := range small() {
		list := truths(b)
		if len(list) == 0 {
			lies++
			checkErrors(t, "a false book", slices.Concat(byTick(b, 0), byTick(b, b.Ticks), byBook(b)), api.ErrScaleFalse)
			continue
		}
		checkTold(t, i, b, listed(list))
	}
	if lies < 5 || lies > len(small())/2 {
		t.Errorf("%d of %d books cannot be true", lies, len(small()))
	}
}

// P4.5, P4.6, P4.7: drawn books of all sizes are compared with the marks.
func TestManyBooks(t *testing.T) {
	lies := 0
	list := many(90)
	for i, b := range list {
		want, can := marked(b)
		if can {
			checkTold(t, i, b, want)
			continue
		}
		lies++
		checkErrors(t, "a false book", slices.Concat(byTick(b, 0), byTick(b, b.Ticks), byBook(b)), api.ErrScaleFalse)
	}
	if lies < 15 {
		t.Errorf("only %d books cannot be true", lies)
	}
}

// checkTold compares what is told of a book with the spans of the offsets at all ticks.
func checkTold(t *testing.T, i int, b api.ScaleBook, want []api.Span) {
	t.Helper()
	if s := spans(t, b); !slices.Equal(s, want) {
		t.Errorf("book %d: %v instead of %v", i, s, want)
	}
	worst, most := 0, -1
	for tick, s := range want {
		far := max(s.High, -s.Low)
		if n, e := scale.Stated(b, tick); n != far || e != api.OK {
			t.Errorf("book %d: Stated at %d: %d, %d instead of %d", i, tick, n, e, far)
		}
		if far > most {
			worst, most = tick, far
		}
	}
	if tick, off, e := scale.Worst(b); tick != worst || off != most || e != api.OK {
		t.Errorf("book %d: Worst: %d, %d, %d instead of %d, %d", i, tick, off, e, worst, most)
	}
	surely, best, e := scale.Meets(b)
	if wantSurely, wantBest, wantErr := meets(b.Rule, want[b.Ticks]); surely != wantSurely || best != wantBest || e != wantErr {
		t.Errorf("book %d: Meets: %d, %d, %d instead of %d, %d, %d", i, surely, best, e, wantSurely, wantBest, wantErr)
	}
}

// meets is the most and the least of the fewest ticks for each offset of a span.
func meets(r api.ScaleRule, s api.Span) (surely, best int, e api.Errno) {
	all := reaches(r)
	best = 200
	for off := s.Low; off <= s.High; off++ {
		n := fewest(all, off)
		if n < 0 {
			return 0, 0, api.ErrNone
		}
		surely, best = max(surely, n), min(best, n)
	}
	return surely, best, api.OK
}
