package scale_test

import (
	"math/rand"
	"slices"
	"testing"

	"remontoir/api"
	"remontoir/scale"
)

// Four models. For plans: of small rules the sums of all lists of adjustments are collected, and of others the greatest sum is found for each last adjustment. For books: of small ones all truths are listed, as the chapter defines them, and of others all numbers are marked that the offset at each tick can be, from the first tick on, and then back from the last one.

func to(low, high int) api.Span { return api.Span{Low: low, High: high} }

// ruled is a rule without drift.
func ruled(fast, slow, jerk int) api.ScaleRule {
	return api.ScaleRule{Fast: fast, Slow: slow, Jerk: jerk}
}

func drifting(r api.ScaleRule, drift api.Span) api.ScaleRule {
	r.Drift = drift
	return r
}

func at(tick, low, high int) api.ScaleLook { return api.ScaleLook{Tick: tick, Off: to(low, high)} }

// ticks is a book without looks.
func ticks(r api.ScaleRule, many int, steer ...int) api.ScaleBook {
	return api.ScaleBook{Rule: r, Ticks: many, Steer: steer}
}

// with is a book with looks more, that shares no memory with it.
func with(b api.ScaleBook, looks ...api.ScaleLook) api.ScaleBook {
	b = copied(b)
	b.Looks = append(b.Looks, looks...)
	return b
}

// copied is a copy of a book that shares nothing with it.
func copied(b api.ScaleBook) api.ScaleBook {
	b.Steer, b.Looks = slices.Clone(b.Steer), slices.Clone(b.Looks)
	return b
}

// plain is the rule of the chapter's examples, book is their book, and torn is the one with the look that makes it false.
var plain = drifting(ruled(10, 5, 4), to(-1, 2))

func book() api.ScaleBook {
	return with(ticks(plain, 10, -4, -5, -4), at(0, 18, 22), at(6, -3, 4))
}

func torn() api.ScaleBook { return with(book(), at(3, 20, 30)) }

func within(n, low, high int) bool { return low <= n && n <= high }

func has(s api.Span, n int) bool { return within(n, s.Low, s.High) }

func plus(a, b api.Span) api.Span { return to(a.Low+b.Low, a.High+b.High) }

func minus(s api.Span) api.Span { return to(-s.High, -s.Low) }

func sum(list []int) int {
	all := 0
	for _, n := range list {
		all += n
	}
	return all
}

// keeps reports whether adjustments keep a rule, as the chapter says it.
func keeps(r api.ScaleRule, list []int) bool {
	for i, n := range list {
		if n < -r.Slow || n > r.Fast {
			return false
		}
		if i == 0 && !within(n, -r.Jerk, r.Jerk) || i > 0 && !within(n-list[i-1], -r.Jerk, r.Jerk) {
			return false
		}
	}
	return true
}

// isPlan reports whether adjustments are a plan for an offset, as the chapter says it.
func isPlan(r api.ScaleRule, off int, list []int) bool {
	many := len(list)
	return many <= 200 && keeps(r, list) && (many == 0 || within(list[many-1], -r.Jerk, r.Jerk)) && sum(list) == -off
}

// smallRules are rules with few adjustments.
func smallRules() []api.ScaleRule {
	var list []api.ScaleRule
	for fast := range 5 {
		for slow := range 4 {
			for jerk := 1; jerk < 5; jerk++ {
				list = append(list, ruled(fast, slow, jerk))
			}
		}
	}
	return list
}

// ending is how a list of adjustments ends: with which one, and what all of them are, added up.
type ending struct{ last, sum int }

// sums are those of all lists of so many adjustments, from none on, that keep a rule and end smoothly.
func sums(r api.ScaleRule, most int) []map[int]bool {
	ends := map[ending]bool{{}: true}
	var list []map[int]bool
	for range most + 1 {
		now, next := map[int]bool{}, map[ending]bool{}
		for e := range ends {
			if within(e.last, -r.Jerk, r.Jerk) {
				now[e.sum] = true
			}
			for n := max(-r.Slow, e.last-r.Jerk); n <= min(r.Fast, e.last+r.Jerk); n++ {
				next[ending{n, e.sum + n}] = true
			}
		}
		list, ends = append(list, now), next
	}
	return list
}

const never = -1 << 40

// greatest are the greatest sums of all lists of so many adjustments, from 0 to 200, that keep a rule and end smoothly.
func greatest(r api.ScaleRule) []int {
	now := slices.Repeat([]int{never}, r.Slow+r.Fast+1) // by the last adjustment
	now[r.Slow] = 0
	var list []int
	for range 201 {
		next := slices.Repeat([]int{never}, len(now))
		for i := range now {
			around := now[max(0, i-r.Jerk):min(len(now), i+r.Jerk+1)]
			next[i] = slices.Max(around) + i - r.Slow
		}
		smooth := now[max(0, r.Slow-r.Jerk):min(len(now), r.Slow+r.Jerk+1)]
		list = append(list, slices.Max(smooth))
		now = next
	}
	return list
}

// reaches are the spans of all sums of so many adjustments, from 0 to 200.
func reaches(r api.ScaleRule) []api.Span {
	low, high := greatest(ruled(r.Slow, r.Fast, r.Jerk)), greatest(r)
	var list []api.Span
	for i := range high {
		list = append(list, to(-low[i], high[i]))
	}
	return list
}

// fewest is the first number of adjustments with which an offset is reached, or -1.
func fewest(spans []api.Span, off int) int {
	return slices.IndexFunc(spans, func(s api.Span) bool { return has(s, -off) })
}

// drawnRule is a rule that is drawn; some are at the limits.
func drawnRule(r *rand.Rand) api.ScaleRule {
	most := []int{8, 30, 500}[r.Intn(3)]
	x := ruled(r.Intn(most+1), r.Intn(most+1), 1+r.Intn(most))
	x.Drift.Low = max(r.Intn(2*most+1)-most, -100)
	x.Drift.Low = min(x.Drift.Low, 100)
	x.Drift.High = min(x.Drift.Low+r.Intn(7), 100)
	return x
}

// drawnSteer are adjustments that keep a rule.
func drawnSteer(r *rand.Rand, x api.ScaleRule, many int) []int {
	var list []int
	last := 0
	for range many {
		low, high := max(-x.Slow, last-x.Jerk), min(x.Fast, last+x.Jerk)
		last = low + r.Intn(high-low+1)
		list = append(list, last)
	}
	return list
}

// change is between what the offset changes from a tick to the next one.
func change(b api.ScaleBook, tick int) api.Span {
	if tick >= len(b.Steer) {
		return b.Rule.Drift
	}
	return plus(b.Rule.Drift, to(b.Steer[tick], b.Steer[tick]))
}

// isTruth reports whether offsets are a truth of a book, as the chapter says it.
func isTruth(b api.ScaleBook, offsets []int) bool {
	if len(offsets) != b.Ticks+1 {
		return false
	}
	for tick, n := range offsets {
		if !within(n, -20000, 20000) || tick > 0 && !has(change(b, tick-1), n-offsets[tick-1]) {
			return false
		}
	}
	return !slices.ContainsFunc(b.Looks, func(l api.ScaleLook) bool { return !has(l.Off, offsets[l.Tick]) })
}

// allowed is the span of the offsets at a tick that all looks at it allow, if it is one.
func allowed(b api.ScaleBook, tick int) api.Span {
	s := to(-20000, 20000)
	for _, l := range b.Looks {
		if l.Tick == tick {
			s = to(max(s.Low, l.Off.Low), min(s.High, l.Off.High))
		}
	}
	return s
}

// truths are all truths of a book.
func truths(b api.ScaleBook) [][]int {
	var list [][]int
	var now []int
	var next func(s api.Span)
	next = func(s api.Span) {
		for n := s.Low; n <= s.High; n++ {
			now = append(now, n)
			if len(now) <= b.Ticks {
				next(plus(to(n, n), change(b, len(now)-1)))
			} else if isTruth(b, now) {
				list = append(list, slices.Clone(now))
			}
			now = now[:len(now)-1]
		}
	}
	next(allowed(b, 0))
	return list
}

// listed are the spans of the offsets at all ticks of listed truths.
func listed(list [][]int) []api.Span {
	var all []api.Span
	for tick := range list[0] {
		s := to(list[0][tick], list[0][tick])
		for _, x := range list {
			s = to(min(s.Low, x[tick]), max(s.High, x[tick]))
		}
		all = append(all, s)
	}
	return all
}

// marks are the numbers from -20000 to 20000 that an offset can be.
type marks [40001]bool

// moved are all numbers that differ from a marked one by a number of a span.
func (m *marks) moved(by api.Span) *marks {
	var next marks
	upTo := make([]int, len(m)+1) // how many are marked before each
	for i, is := range m {
		upTo[i+1] = upTo[i]
		if is {
			upTo[i+1]++
		}
	}
	for i := range next {
		low, high := max(i-by.High, 0), min(i-by.Low, len(m)-1)
		next[i] = low <= high && upTo[high+1] > upTo[low]
	}
	return &next
}

// only are those of the marked numbers that are in a span, and are marked in another one.
func (m *marks) only(s api.Span, other *marks) *marks {
	next := *m
	for i := range next {
		next[i] = next[i] && has(s, i-20000) && (other == nil || other[i])
	}
	return &next
}

func (m *marks) span() (api.Span, bool) {
	first := slices.Index(m[:], true)
	if first < 0 {
		return api.Span{}, false
	}
	last := len(m) - 1
	for !m[last] {
		last--
	}
	return to(first-20000, last-20000), true
}

// marked are the spans of the offsets at all ticks of a book, by the marks, and whether it can be true.
func marked(b api.ScaleBook) ([]api.Span, bool) {
	var all marks
	for i := range all {
		all[i] = true
	}
	list := []*marks{all.only(allowed(b, 0), nil)}
	for tick := range b.Ticks {
		list = append(list, list[tick].moved(change(b, tick)).only(allowed(b, tick+1), nil))
	}
	for tick := b.Ticks - 1; tick >= 0; tick-- {
		list[tick] = list[tick].only(to(-20000, 20000), list[tick+1].moved(minus(change(b, tick))))
	}
	var spans []api.Span
	for _, m := range list {
		s, is := m.span()
		if !is {
			return nil, false
		}
		spans = append(spans, s)
	}
	return spans, true
}

// sample is a book with a truth of it.
type sample struct {
	b     api.ScaleBook
	truth []int
}

// around is a look at a tick that a truth agrees with.
func around(r *rand.Rand, truth []int, tick, wide int) api.ScaleLook {
	n := truth[tick]
	return at(tick, max(n-r.Intn(wide+1), -20000), min(n+r.Intn(wide+1), 20000))
}

// drawn is a book that is drawn, and a truth of it, from which all comes that it tells. Some are near the limits.
func drawn(r *rand.Rand) sample {
	b := ticks(drawnRule(r), 1+r.Intn([]int{6, 12, 60}[r.Intn(3)]))
	b.Steer = drawnSteer(r, b.Rule, r.Intn(b.Ticks+1))
	n := []int{r.Intn(101) - 50, r.Intn(40001) - 20000, 20000 - r.Intn(9), r.Intn(9) - 20000}[r.Intn(4)]
	truth := []int{n}
	for tick := range b.Ticks {
		s := change(b, tick)
		n += s.Low + r.Intn(s.High-s.Low+1)
		truth = append(truth, n)
	}
	if !isTruth(b, truth) {
		return drawn(r)
	}
	for range r.Intn(9) {
		b.Looks = append(b.Looks, around(r, truth, r.Intn(b.Ticks+1), []int{0, 10, 300}[r.Intn(3)]))
	}
	return sample{b, truth}
}

// samples are drawn books, always the same ones.
func samples(count int) []sample {
	r := rand.New(rand.NewSource(4))
	var list []sample
	for range count {
		list = append(list, drawn(r))
	}
	return list
}

// many are books that are drawn, always the same ones; in each second one a look was not told by its truth.
func many(count int) []api.ScaleBook {
	r := rand.New(rand.NewSource(5))
	var list []api.ScaleBook
	for len(list) < count {
		x := drawn(r)
		list = append(list, x.b)
		l := around(r, x.truth, r.Intn(x.b.Ticks+1), 5)
		by := []int{r.Intn(13) - 6, r.Intn(101) - 50}[r.Intn(2)]
		l.Off = to(min(max(l.Off.Low+by, -20000), 20000), min(max(l.Off.High+by, -20000), 20000))
		b := with(x.b, l)
		r.Shuffle(len(b.Looks), func(i, j int) { b.Looks[i], b.Looks[j] = b.Looks[j], b.Looks[i] })
		list = append(list, b)
	}
	return list
}

// good returns a result that comes without an error.
func good[T any](t *testing.T, what string) func(T, api.Errno) T {
	t.Helper()
	return func(x T, e api.Errno) T {
		t.Helper()
		if e != api.OK {
			t.Fatalf("%s: error %d", what, e)
		}
		return x
	}
}

// spans are those that are told of the offsets at all ticks.
func spans(t *testing.T, b api.ScaleBook) []api.Span {
	t.Helper()
	var all []api.Span
	for tick := range b.Ticks + 1 {
		all = append(all, good[api.Span](t, "Error")(scale.Error(b, tick)))
	}
	return all
}

// canBe reports whether a valid book can be true.
func canBe(t *testing.T, b api.ScaleBook) bool {
	t.Helper()
	_, e := scale.Error(b, 0)
	if e != api.OK && e != api.ErrScaleFalse {
		t.Fatalf("Error: %d", e)
	}
	return e == api.OK
}
