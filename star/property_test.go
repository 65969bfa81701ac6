package star_test

import (
	"math"
	"math/rand"
	"reflect"
	"slices"
	"testing"

	"remontoir/api"
	"remontoir/star"
)

// inside reports whether spans lie in others, one by one.
func inside(narrow, wide []api.Span) bool {
	return slices.EqualFunc(narrow, wide, func(a, b api.Span) bool { return b.Low <= a.Low && a.High <= b.High })
}

// plus is between what numbers of two spans lie, added up.
func plus(a, b api.Span) api.Span { return to(a.Low+b.Low, a.High+b.High) }

func minus(s api.Span) api.Span { return to(-s.High, -s.Low) }

func has(s api.Span, n int) bool { return s.Low <= n && n <= s.High }

// canBe reports whether a valid book can be true.
func canBe(t *testing.T, b api.StarBook) bool {
	t.Helper()
	_, e := star.Offset(b, 0)
	if e != api.OK && e != api.ErrStarFalse {
		t.Fatalf("Offset: %d", e)
	}
	return e == api.OK
}

// P3.4, P3.8: both ends of each offset are so in a truth, and it is Case's.
func TestCase(t *testing.T) {
	for i, b := range slices.Concat(many(120), small(), []api.StarBook{book(), fullBook(), sharpBook(), nights(8, to(-20000, 20000), to(-1000, 1000))}) {
		if !canBe(t, b) {
			continue
		}
		for night, told := range spans(t, b)[:b.Nights] {
			for most, want := range map[bool]int{true: told.High, false: told.Low} {
				c := good[api.StarTruth](t, "Case")(star.Case(b, night, most))
				if is, e := star.IsTruth(b, c); !is || e != api.OK || !agrees(b, c) {
					t.Fatalf("book %d: Case of %d: %v is no truth", i, night, c)
				}
				if c.Offsets[night] != want {
					t.Errorf("book %d: Case of %d: %d instead of %d", i, night, c.Offsets[night], want)
				}
			}
		}
	}
}

// P3.8: in every truth all numbers lie between what is told.
func TestTimeOfTheHouse(t *testing.T) {
	for i, x := range samples(150) {
		if is, e := star.IsTruth(x.b, x.truth); !is || e != api.OK {
			t.Fatalf("book %d: %v is no truth", i, x.truth)
		}
		for k, s := range spans(t, x.b) {
			if n := *numberOf(&x.truth, k); !has(s, n) {
				t.Errorf("book %d: the number %d: %d is not in %v", i, k, n, s)
			}
		}
		for first, n := range x.truth.Offsets {
			for second, m := range x.truth.Offsets {
				if s := apart(t, x.b, first, second); !has(s, m-n) {
					t.Errorf("book %d: between %d and %d: %d is not in %v", i, first, second, m-n, s)
				}
			}
		}
	}
}

// P3.8: both ends of personal errors and delays, too, are so in a truth: if just this end can be, the book can still be true, and it cannot if only what is farther out can be.
func TestEndsOfErrorsAndDelays(t *testing.T) {
	for i, x := range samples(150) {
		told := spans(t, x.b)[x.b.Nights:]
		for k, s := range told {
			for n, want := range map[int]bool{s.Low: true, s.High: true, s.Low - 1: false, s.High + 1: false} {
				b := copied(x.b)
				own := slices.Concat(b.People, b.Paths)[k]
				if k < len(b.People) {
					b.People[k] = to(n, n)
				} else {
					b.Paths[k-len(b.People)] = to(n, n)
				}
				if has(own, n) && canBe(t, b) != want {
					t.Errorf("book %d: the span %d is %v, but with %d alone: %v", i, k, s, n, !want)
				}
			}
		}
	}
}

// P3.9: one look more never widens a span.
func TestLookMore(t *testing.T) {
	r := rand.New(rand.NewSource(3))
	for i, x := range samples(80) {
		l, ok := told(r, x.b, x.truth, 5)
		if !ok || len(x.b.Looks) == api.StarLooks {
			continue
		}
		if !inside(all(t, with(x.b, l)), all(t, x.b)) {
			t.Errorf("book %d: a span is wider with %v", i, l)
		}
	}
}

// wider is a span that goes on to both sides, as far as it may.
func wider(s api.Span, by, low, high int) api.Span {
	return to(max(s.Low-by, low), min(s.High+by, high))
}

// widened are books in each of which one thing is told less sharply.
func widened(b api.StarBook, by int) []api.StarBook {
	begin, rate, people, paths, looks := copied(b), copied(b), copied(b), copied(b), copied(b)
	begin.Begin = wider(b.Begin, by, -api.StarOffset, api.StarOffset)
	rate.Rate = wider(b.Rate, by, -api.StarRate, api.StarRate)
	for i, s := range b.People {
		people.People[i] = wider(s, by, -api.StarPerson, api.StarPerson)
	}
	for i, s := range b.Paths {
		paths.Paths[i] = wider(s, by, 0, api.StarDelay)
	}
	for i := range b.Looks {
		looks.Looks[i].Err = min(looks.Looks[i].Err+by, api.StarErr)
	}
	return []api.StarBook{begin, rate, people, paths, looks}
}

// P3.9: a look that can be wrong by more, a wider span of a person, a path, the rate or the beginning never narrows a span.
func TestWiderSpans(t *testing.T) {
	for i, x := range samples(50) {
		before := all(t, x.b)
		for by := 1; by < 1000; by *= 30 {
			for j, b := range widened(x.b, by) {
				if !inside(before, all(t, b)) {
					t.Errorf("book %d: a span is narrower, widened as %d by %d", i, j, by)
				}
			}
		}
	}
}

// P3.9: the order of looks, and how often each is told, change nothing.
func TestOrderOfLooks(t *testing.T) {
	for i, b := range many(120) {
		turned, twice := copied(b), copied(b)
		slices.Reverse(turned.Looks)
		if n := len(b.Looks); n > 0 && n < api.StarLooks {
			twice = with(b, b.Looks[i%n])
		}
		for _, c := range []api.StarBook{turned, twice} {
			if canBe(t, b) != canBe(t, c) || canBe(t, b) && !slices.Equal(all(t, b), all(t, c)) {
				t.Errorf("book %d: something else is told", i)
			}
		}
		idle, e := star.Idle(b)
		mirrored, f := star.Idle(turned)
		slices.Reverse(mirrored)
		if e != f || !slices.EqualFunc(idle, mirrored, func(j, k int) bool { return j+k == len(b.Looks)-1 }) {
			t.Errorf("book %d: Idle: %v, %d, and turned round %v, %d", i, idle, e, mirrored, f)
		}
		first, second := good[[]int](t, "Wrong")(star.Wrong(b)), good[[]int](t, "Wrong")(star.Wrong(turned))
		if len(first) != len(second) {
			t.Errorf("book %d: Wrong: %v, and turned round %v", i, first, second)
		}
	}
}

// P3.10: over another night nothing narrower lies; turned round, the ends change places, and signs.
func TestThreeNights(t *testing.T) {
	for i, x := range samples(60) {
		for first := range x.b.Nights {
			for second := range x.b.Nights {
				if apart(t, x.b, first, second) != minus(apart(t, x.b, second, first)) {
					t.Errorf("book %d: between %d and %d, and turned round", i, first, second)
				}
				third := (first*3 + second*5 + i) % x.b.Nights
				over := plus(apart(t, x.b, first, second), apart(t, x.b, second, third))
				if !inside([]api.Span{apart(t, x.b, first, third)}, []api.Span{over}) {
					t.Errorf("book %d: between %d and %d, over %d", i, first, third, second)
				}
			}
		}
	}
}

// P3.11: without the looks that are told the book can be true; without fewer, or ones before them, it cannot.
func TestLooksThatMustBeWrong(t *testing.T) {
	for i, b := range many(100) {
		list := good[[]int](t, "Wrong")(star.Wrong(b))
		left := without(b, list...)
		c := good[api.StarTruth](t, "Case")(star.Case(left, 0, true))
		if is, e := star.IsTruth(left, c); !is || e != api.OK {
			t.Errorf("book %d: no truth without %v", i, list)
		}
		for _, set := range sets(len(b.Looks)) {
			if slices.Equal(set, list) {
				break
			}
			if canBe(t, without(b, set...)) {
				t.Errorf("book %d: without %v instead of %v it can be true", i, set, list)
			}
		}
	}
}

// P3.12: if all that is read, and Begin, are more by as much, all offsets are so, and nothing else.
func TestAllReadMore(t *testing.T) {
	for i, x := range samples(80) {
		for _, by := range []int{-50, -1, 7, 40} {
			b := copied(x.b)
			b.Begin = plus(b.Begin, to(by, by))
			for j := range b.Looks {
				b.Looks[j].Read += by
			}
			if star.Check(b) != api.OK {
				continue
			}
			want := all(t, x.b)
			for night := range b.Nights {
				want[night] = plus(want[night], to(by, by))
			}
			if s := all(t, b); !slices.Equal(s, want) {
				t.Errorf("book %d, by %d: %v instead of %v", i, by, s, want)
			}
		}
	}
}

// P3.12: if all that one observer reads, and the observer's span, are more by as much, this personal error is so, and nothing else.
func TestOneReadsMore(t *testing.T) {
	asked := 0
	for i, x := range samples(80) {
		for who := range x.b.People {
			by := []int{-30, 1, 25}[(i+who)%3]
			b := copied(x.b)
			b.People[who] = plus(b.People[who], to(by, by))
			for j, l := range b.Looks {
				if l.Kind == api.StarSeen && l.Who == who {
					b.Looks[j].Read += by
				}
			}
			if star.Check(b) != api.OK {
				continue
			}
			asked++
			want := all(t, x.b)
			want[b.Nights+who] = plus(want[b.Nights+who], to(by, by))
			if s := all(t, b); !slices.Equal(s, want) {
				t.Errorf("book %d, the observer %d, by %d: %v instead of %v", i, who, by, s, want)
			}
		}
	}
	if asked < 60 {
		t.Errorf("asked only of %d observers", asked)
	}
}

// P3.13: without looks the ends of offsets go on night by night by those of Rate, and nothing else is told than what the book says.
func TestWithoutLooks(t *testing.T) {
	for i, x := range samples(60) {
		b := copied(x.b)
		b.Looks = nil
		want := []api.Span{b.Begin}
		for night := range b.Nights - 1 {
			want = append(want, plus(want[night], b.Rate))
		}
		want = slices.Concat(want, b.People, b.Paths)
		if s := spans(t, b); !slices.Equal(s, want) {
			t.Errorf("book %d: %v instead of %v", i, s, want)
		}
	}
}

// P3.13: without a look that is idle all is told as before; without one that is not, something else is.
func TestWithoutIdleLooks(t *testing.T) {
	for i, x := range samples(100) {
		list := good[[]int](t, "Idle")(star.Idle(x.b))
		before := spans(t, x.b)
		night, wide, e := star.Worst(x.b)
		for j := range x.b.Looks {
			less := without(x.b, j)
			same := slices.Equal(spans(t, less), before)
			if same != slices.Contains(list, j) {
				t.Errorf("book %d: the look %d, idle: %v", i, j, !same)
			}
			n, w, f := star.Worst(less)
			if same && (n != night || w != wide || f != e) {
				t.Errorf("book %d: Worst without the look %d: %d, %d, %d", i, j, n, w, f)
			}
		}
	}
}

// callAll calls all functions.
func callAll(b api.StarBook, x api.StarTruth, first, second int) {
	star.Check(b)
	star.IsTruth(b, x)
	star.Offset(b, first)
	star.Between(b, first, second)
	star.Person(b, second)
	star.Path(b, first)
	star.Case(b, first, true)
	star.Case(b, second, false)
	star.Wrong(b)
	star.Idle(b)
	star.Worst(b)
}

// roomy is a book whose lists have room behind them.
func roomy(b api.StarBook) api.StarBook {
	b.People = append(make([]api.Span, 0, 9), b.People...)
	b.Paths = append(make([]api.Span, 0, 9), b.Paths...)
	b.Looks = append(make([]api.StarLook, 0, 19), b.Looks...)
	return b
}

// behind is all that lies in the room of a book's lists.
func behind(b api.StarBook) api.StarBook {
	b.People, b.Paths, b.Looks = b.People[:cap(b.People)], b.Paths[:cap(b.Paths)], b.Looks[:cap(b.Looks)]
	return copied(b)
}

// P3.7: arguments are not changed, nor is what lies behind their lists, and a change of them later changes no result.
func TestArgumentsAreOnlyRead(t *testing.T) {
	for _, b := range []api.StarBook{roomy(book()), roomy(torn()), roomy(with(book(), spareLook))} {
		x := api.StarTruth{Offsets: []int{50, 60, 75}, People: []int{-5, 10}, Paths: []int{40}}
		before, xBefore := behind(b), truthCopied(x)
		callAll(b, x, 0, 1)
		if !reflect.DeepEqual(behind(b), before) || !reflect.DeepEqual(x, xBefore) {
			t.Error("an argument has changed")
		}
	}
	b := roomy(book())
	c := good[api.StarTruth](t, "Case")(star.Case(b, 0, true))
	want := truthCopied(c)
	clear(b.People)
	clear(b.Paths)
	clear(b.Looks)
	if !sameTruth(c, want) {
		t.Errorf("a result has changed with the arguments: %v", c)
	}
}

// P3.7: results are new memory, and the lists of a truth share none.
func TestResultsAreNew(t *testing.T) {
	first := good[api.StarTruth](t, "Case")(star.Case(book(), 0, true))
	second := good[api.StarTruth](t, "Case")(star.Case(book(), 0, true))
	want := truthCopied(second)
	lists := func(x api.StarTruth) [][]int { return [][]int{x.Offsets, x.People, x.Paths} }
	for i, list := range lists(first) {
		clear(append(list, 7))
		clear(list)
		if others := lists(first)[i+1:]; !reflect.DeepEqual(others, lists(want)[i+1:]) {
			t.Errorf("the list %d shares memory with a later one: %v", i, others)
		}
	}
	if !sameTruth(second, want) {
		t.Errorf("a result shares memory with another one: %v", second)
	}
	for _, ask := range []func() ([]int, api.Errno){
		func() ([]int, api.Errno) { return star.Wrong(torn()) },
		func() ([]int, api.Errno) { return star.Idle(with(book(), spareLook)) },
	} {
		list := good[[]int](t, "the list")(ask())
		want := slices.Clone(list)
		clear(append(list, 9)[:1])
		list[0] = 9
		if again := good[[]int](t, "the list")(ask()); !slices.Equal(again, want) {
			t.Errorf("a result has been kept: %v", again)
		}
	}
}

// R3: between a nil list and an empty one there is no difference.
func TestNilAndEmpty(t *testing.T) {
	b := nights(3, to(0, 9), to(-1, 1))
	empty := b
	empty.People, empty.Paths, empty.Looks = []api.Span{}, []api.Span{}, []api.StarLook{}
	if star.Check(empty) != api.OK || !slices.Equal(all(t, b), all(t, empty)) {
		t.Error("an empty list is not like none")
	}
	for _, people := range [][]int{nil, {}} {
		x := api.StarTruth{Offsets: []int{0, 1, 2}, People: people, Paths: []int{}}
		if is, e := star.IsTruth(b, x); !is || e != api.OK {
			t.Errorf("IsTruth: %v, %d", is, e)
		}
	}
}

// P1: no function panics, whatever it gets.
func TestAnyArguments(t *testing.T) {
	list := slices.Concat(many(10), small()[:6], []api.StarBook{book(), torn(), fullBook(), sharpBook()})
	for _, books := range []map[string]api.StarBook{wrongBooks(), falseBooks()} {
		for _, b := range books {
			list = append(list, b)
		}
	}
	numbers := []int{math.MinInt, math.MinInt + 1, -30001, -2, -1, 0, 1, 2, 3, 4, 8, 9, 30001, math.MaxInt - 1, math.MaxInt}
	for i, n := range numbers {
		m := numbers[(i+6)%len(numbers)]
		list = append(list, nights(n, to(0, 0), to(0, 0)), nights(3, to(n, m), to(m, n)), nights(3, to(n, n), to(m, m)), among(book(), []api.Span{to(n, m)}, []api.Span{to(m, n)}), with(book(), api.StarLook{Night: n, Kind: m, Who: n, Read: m, Err: n}), with(book(), api.StarLook{Kind: n, Who: m}), with(book(), seen(n, m, n, m)), with(book(), signal(0, 0, n, m)), with(book(), seen(0, 0, m, n)))
	}
	for _, b := range list {
		for i, n := range numbers {
			m := numbers[(i+4)%len(numbers)]
			row := func(many int) []int { return slices.Repeat([]int{n, m}, many)[:many] }
			callAll(b, api.StarTruth{Offsets: row(min(max(b.Nights, 0), 9)), People: row(len(b.People)), Paths: row(len(b.Paths))}, n, m)
		}
		callAll(b, api.StarTruth{Offsets: []int{1}, People: make([]int, 99), Paths: nil}, 0, 1)
	}
}

// P2: the same arguments have the same result, whatever was called before.
func TestSameResults(t *testing.T) {
	ask := func(b api.StarBook) []any {
		s1, e1 := star.Offset(b, b.Nights-1)
		s2, e2 := star.Between(b, 0, b.Nights-1)
		s3, e3 := star.Person(b, 0)
		s4, e4 := star.Path(b, 0)
		wrong, e5 := star.Wrong(b)
		idle, e6 := star.Idle(b)
		night, wide, e7 := star.Worst(b)
		return []any{s1, e1, s2, e2, s3, e3, s4, e4, slices.Clone(wrong), e5, slices.Clone(idle), e6, night, wide, e7}
	}
	list := many(60)
	var first [][]any
	for _, b := range list {
		first = append(first, ask(b))
	}
	for i := len(list) - 1; i >= 0; i-- {
		if now := ask(list[i]); !reflect.DeepEqual(now, first[i]) {
			t.Errorf("book %d: %v, and then %v", i, first[i], now)
		}
	}
}
