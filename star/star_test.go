package star_test

import (
	"math"
	"slices"
	"testing"

	"remontoir/api"
	"remontoir/star"
)

// wrongBooks are books that are not valid, each by one thing.
func wrongBooks() map[string]api.StarBook {
	list := map[string]api.StarBook{
		"none":        {},
		"5 observers": among(book(), make([]api.Span, 5), book().Paths),
		"5 stations":  among(book(), book().People, make([]api.Span, 5)),
		"11 looks":    with(book(), slices.Repeat([]api.StarLook{spareLook}, 7)...),
	}
	for name, n := range map[string]int{"no nights": 0, "nights below 0": -1, "9 nights": 9, "all nights": math.MaxInt, "least nights": math.MinInt} {
		list[name] = nights(n, to(0, 0), to(0, 0))
	}
	for name, s := range wrongSpans(-20000, 20000) {
		list["a beginning "+name] = nights(3, s, to(0, 0))
	}
	for name, s := range wrongSpans(-1000, 1000) {
		list["a rate "+name] = nights(3, to(0, 0), s)
		list["a rate of one night "+name] = nights(1, to(0, 0), s)
	}
	for name, s := range wrongSpans(-2000, 2000) {
		list["an observer "+name] = among(book(), []api.Span{to(0, 0), to(0, 0), s}, book().Paths)
	}
	for name, s := range wrongSpans(0, 5000) {
		list["a station "+name] = among(book(), book().People, []api.Span{to(0, 0), s})
	}
	for name, l := range wrongLooks() {
		list["a look "+name] = with(book(), l)
	}
	return list
}

// wrongSpans are none that lie from low to high.
func wrongSpans(low, high int) map[string]api.Span {
	return map[string]api.Span{
		"too low": to(low-1, high), "too high": to(low, high+1), "before": to(low-2, low-1), "behind": to(high+1, high+2), "turned round": to(low+1, low), "wholly turned round": to(high, low),
		"far too low": to(math.MinInt, high), "far too high": to(low, math.MaxInt), "far turned round": to(math.MaxInt, math.MinInt),
	}
}

// wrongLooks are looks that are none of the chapter's book, of three nights, two observers and a station.
func wrongLooks() map[string]api.StarLook {
	kind := func(kind, who int) api.StarLook { return api.StarLook{Kind: kind, Who: who} }
	return map[string]api.StarLook{
		"in the night 3": seen(3, 0, 0, 0), "before the first night": seen(-1, 0, 0, 0), "in the last of all nights": signal(math.MaxInt, 0, 0, 0), "in the first of all nights": signal(math.MinInt, 0, 0, 0),
		"of the kind 2": kind(2, 0), "of the kind -1": kind(-1, 0), "of the last kind": kind(math.MaxInt, 0), "of the first kind": kind(math.MinInt, 0), "of the kind 2 in the night of another": kind(2, 1),
		"of no observer": seen(0, 2, 0, 0), "of an observer below 0": seen(0, -1, 0, 0), "of the last of all observers": seen(0, math.MaxInt, 0, 0), "of no station": signal(0, 1, 0, 0), "of a station below 0": signal(0, -1, 0, 0), "of the first of all stations": signal(0, math.MinInt, 0, 0),
		"read too high": seen(0, 0, 30001, 0), "read too low": signal(0, 0, -30001, 0), "read far too high": seen(0, 0, math.MaxInt, 0), "read far too low": seen(0, 0, math.MinInt, 0),
		"wrong by too much": seen(0, 0, 0, 2001), "wrong by less than nothing": signal(0, 0, 0, -1), "wrong by all": seen(0, 0, 0, math.MaxInt), "wrong by the least": seen(0, 0, 0, math.MinInt),
	}
}

// fullBook is as great as a book can be.
func fullBook() api.StarBook {
	b := nights(8, to(-20000, 20000), to(-1000, 1000))
	b = among(b, slices.Repeat([]api.Span{to(-2000, 2000)}, 4), slices.Repeat([]api.Span{to(0, 5000)}, 4))
	for i := range 4 {
		b.Looks = append(b.Looks, seen(7-i, i, 27000, 2000), signal(i, i, 17000, 2000))
	}
	return with(b, seen(7, 3, 30000, 2000), signal(7, 3, 20000, 2000))
}

// sharpBook is one of which all is known.
func sharpBook() api.StarBook {
	b := among(nights(3, to(-7, -7), to(5, 5)), []api.Span{to(2000, 2000), to(-2000, -2000)}, []api.Span{to(5000, 5000)})
	return with(b, seen(0, 0, 1993, 0), seen(2, 1, -1997, 0), signal(1, 0, -5002, 0))
}

// falseBooks are valid books that cannot be true.
func falseBooks() map[string]api.StarBook {
	still := among(nights(8, to(0, 10), to(0, 0)), []api.Span{to(0, 0), to(0, 5)}, []api.Span{to(0, 5)})
	return map[string]api.StarBook{
		"torn":                        torn(),
		"beyond the beginning":        with(still, seen(0, 0, 11, 0)),
		"before the beginning":        with(still, seen(7, 0, -1, 0)),
		"two looks in a night":        with(still, seen(3, 0, 3, 0), seen(3, 0, 4, 0)),
		"two looks that can be wrong": with(still, seen(3, 0, 3, 1), seen(3, 0, 6, 1)),
		"two looks in two nights":     with(still, seen(0, 1, 3, 0), seen(7, 1, 4, 0)),
		"two observers":               with(still, seen(0, 0, 3, 0), seen(5, 1, 9, 0)),
		"two signals":                 with(still, signal(0, 0, 0, 1), signal(2, 0, 3, 1)),
		"a star and a signal":         with(still, seen(0, 0, 3, 0), signal(1, 0, 4, 0)),
		"a signal that is too late":   with(still, seen(0, 0, 9, 0), signal(1, 0, 3, 0)),
		"a signal before the start":   with(still, signal(0, 0, -6, 0)),
		"three pairs": with(among(nights(1, to(-9, 9), to(0, 0)), []api.Span{to(-9, 9), to(0, 0)}, []api.Span{to(0, 9)}),
			seen(0, 0, 5, 0), seen(0, 1, 2, 0), seen(0, 0, 5, 1), signal(0, 0, 0, 1), signal(0, 0, 3, 1)),
		"gains too little": with(among(nights(8, to(0, 0), to(-1000, 1000)), []api.Span{to(0, 0)}, nil), seen(7, 0, 7001, 0)),
	}
}

// asked is one call of a function that tells a span.
type asked struct {
	name string
	s    api.Span
	e    api.Errno
}

// byNight are all calls with a night (or two) of the functions that tell a span.
func byNight(b api.StarBook, first, second int) []asked {
	s1, e1 := star.Offset(b, first)
	s2, e2 := star.Between(b, first, second)
	s3, e3 := star.Between(b, second, first)
	return []asked{{"Offset", s1, e1}, {"Between", s2, e2}, {"Between, turned round", s3, e3}}
}

func checkSpan(t *testing.T, where string, a asked, e api.Errno) {
	t.Helper()
	if a.s != to(0, 0) || a.e != e {
		t.Errorf("%s: %s: %v, %d instead of %d", where, a.name, a.s, a.e, e)
	}
}

// checkCase asks for an error of Case, and for a truth without numbers.
func checkCase(t *testing.T, where string, b api.StarBook, night int, e api.Errno) {
	t.Helper()
	for _, most := range []bool{true, false} {
		if c, f := star.Case(b, night, most); !sameTruth(c, api.StarTruth{}) || f != e {
			t.Errorf("%s: Case of %d: %v, %d instead of %d", where, night, c, f, e)
		}
	}
}

// P3.1: which books are valid.
func TestCheck(t *testing.T) {
	for name, b := range wrongBooks() {
		if e := star.Check(b); e != api.ErrStar {
			t.Errorf("%s: %d", name, e)
		}
	}
	for i, b := range slices.Concat(many(60), small(), []api.StarBook{book(), torn(), fullBook(), sharpBook(), among(book(), book().People, append(book().Paths, to(5000, 5000)))}) {
		if e := star.Check(b); e != api.OK {
			t.Errorf("the valid book %d: %d", i, e)
		}
	}
	for name, b := range falseBooks() {
		if e := star.Check(b); e != api.OK {
			t.Errorf("%s: %d", name, e)
		}
	}
}

// P3.1, P1: all functions return ErrStar first, also where every other error applies, and zero values with it.
func TestWrongBookFirst(t *testing.T) {
	for name, b := range wrongBooks() {
		for _, no := range []int{-1, 0} {
			for _, a := range byNight(b, no, no) {
				checkSpan(t, name, a, api.ErrStar)
			}
			s1, e1 := star.Person(b, no)
			s2, e2 := star.Path(b, no)
			checkSpan(t, name, asked{"Person", s1, e1}, api.ErrStar)
			checkSpan(t, name, asked{"Path", s2, e2}, api.ErrStar)
			checkCase(t, name, b, no, api.ErrStar)
		}
		if is, e := star.IsTruth(b, api.StarTruth{}); is || e != api.ErrStar {
			t.Errorf("%s: IsTruth: %v, %d", name, is, e)
		}
		if l, e := star.Wrong(b); len(l) != 0 || e != api.ErrStar {
			t.Errorf("%s: Wrong: %v, %d", name, l, e)
		}
		if l, e := star.Idle(b); len(l) != 0 || e != api.ErrStar {
			t.Errorf("%s: Idle: %v, %d", name, l, e)
		}
		if night, wide, e := star.Worst(b); night != 0 || wide != 0 || e != api.ErrStar {
			t.Errorf("%s: Worst: %d, %d, %d", name, night, wide, e)
		}
	}
}

// P3.2, P3.3, P3.4, P1: wrong questions, of a book that can be true and of one that cannot, and zero values with the error.
func TestWrongQuestions(t *testing.T) {
	for name, b := range map[string]api.StarBook{"true": book(), "torn": torn()} {
		for _, no := range []int{-1, 3, 4, 7, 8, math.MinInt, math.MaxInt} {
			s, e := star.Offset(b, no)
			checkSpan(t, name, asked{"Offset", s, e}, api.ErrStarAsk)
			for _, a := range byNight(b, 0, no)[1:] {
				checkSpan(t, name, a, api.ErrStarAsk)
			}
			checkCase(t, name, b, no, api.ErrStarAsk)
		}
		for _, no := range []int{-1, 2, 3, 4, math.MinInt, math.MaxInt} {
			s, e := star.Person(b, no)
			checkSpan(t, name, asked{"Person", s, e}, api.ErrStarAsk)
		}
		for _, no := range []int{-1, 1, 2, 4, math.MinInt, math.MaxInt} {
			s, e := star.Path(b, no)
			checkSpan(t, name, asked{"Path", s, e}, api.ErrStarAsk)
		}
	}
	alone := nights(2, to(0, 0), to(0, 0))
	s1, e1 := star.Person(alone, 0)
	s2, e2 := star.Path(alone, 0)
	checkSpan(t, "a book of nobody", asked{"Person", s1, e1}, api.ErrStarAsk)
	checkSpan(t, "a book of nobody", asked{"Path", s2, e2}, api.ErrStarAsk)
}

// P3.2, P3.3, P3.4, P3.6, P1: of books that cannot be true nothing is told, also not of a night against itself.
func TestFalseBooks(t *testing.T) {
	for name, b := range falseBooks() {
		for _, a := range append(byNight(b, 0, b.Nights-1), byNight(b, b.Nights-1, b.Nights-1)...) {
			checkSpan(t, name, a, api.ErrStarFalse)
		}
		for i := range b.People {
			s, e := star.Person(b, i)
			checkSpan(t, name, asked{"Person", s, e}, api.ErrStarFalse)
		}
		for i := range b.Paths {
			s, e := star.Path(b, i)
			checkSpan(t, name, asked{"Path", s, e}, api.ErrStarFalse)
		}
		checkCase(t, name, b, b.Nights-1, api.ErrStarFalse)
		if l, e := star.Idle(b); len(l) != 0 || e != api.ErrStarFalse {
			t.Errorf("%s: Idle: %v, %d", name, l, e)
		}
		if night, wide, e := star.Worst(b); night != 0 || wide != 0 || e != api.ErrStarFalse {
			t.Errorf("%s: Worst: %d, %d, %d", name, night, wide, e)
		}
		shape := api.StarTruth{Offsets: make([]int, b.Nights), People: make([]int, len(b.People)), Paths: make([]int, len(b.Paths))}
		if is, e := star.IsTruth(b, shape); is || e != api.OK {
			t.Errorf("%s: IsTruth: %v, %d", name, is, e)
		}
	}
}

// P3.1: what is a truth, at the edges of spans and looks; what has another shape; and numbers so great that they wrap around.
func TestIsTruth(t *testing.T) {
	says := func(people, paths []int, offsets ...int) api.StarTruth {
		return api.StarTruth{Offsets: offsets, People: people, Paths: paths}
	}
	free := nights(2, to(-3, 4), to(-2, 1))
	edge := among(nights(8, to(20000, 20000), to(1000, 1000)), []api.Span{to(-2000, 2000)}, []api.Span{to(0, 5000)})
	top := []int{20000, 21000, 22000, 23000, 24000, 25000, 26000, 27000}
	least, most := math.MinInt, math.MaxInt
	for i, x := range []struct {
		b    api.StarBook
		t    api.StarTruth
		want bool
	}{
		{book(), says([]int{-5, 10}, []int{40}, 50, 60, 75), true}, {torn(), says([]int{-5, 10}, []int{40}, 50, 60, 75), false},
		{free, says(nil, nil, 0, 0), true}, {free, says(nil, nil, -3, -5), true}, {free, says(nil, nil, 4, 5), true}, {free, says(nil, nil, 5, 5), false}, {free, says(nil, nil, -4, -4), false}, {free, says(nil, nil, 0, 2), false}, {free, says(nil, nil, 0, -3), false},
		{free, says([]int{}, []int{}, 0, 0), true}, {free, says(nil, nil, 0), false}, {free, says(nil, nil, 0, 0, 0), false}, {free, says(nil, nil), false}, {free, says([]int{0}, nil, 0, 0), false}, {free, says(nil, []int{0}, 0, 0), false}, {free, says(make([]int, 40), make([]int, 40), make([]int, 40)...), false},
		{edge, says([]int{2000}, []int{5000}, top...), true}, {edge, says([]int{-2000}, []int{0}, top...), true}, {edge, says([]int{2001}, []int{0}, top...), false}, {edge, says([]int{-2001}, []int{0}, top...), false}, {edge, says([]int{0}, []int{-1}, top...), false}, {edge, says([]int{0}, []int{5001}, top...), false},
		{with(edge, seen(7, 0, 29000, 0)), says([]int{2000}, []int{0}, top...), true}, {with(edge, seen(7, 0, 30000, 1000)), says([]int{2000}, []int{0}, top...), true}, {with(edge, seen(7, 0, 30000, 999)), says([]int{2000}, []int{0}, top...), false}, {with(edge, seen(7, 0, 25000, 0)), says([]int{2000}, []int{0}, top...), false}, {with(edge, seen(7, 0, 25000, 0)), says([]int{-2000}, []int{0}, top...), true},
		{with(edge, signal(7, 0, 22000, 0)), says([]int{0}, []int{5000}, top...), true}, {with(edge, signal(7, 0, 21998, 1)), says([]int{0}, []int{5000}, top...), false}, {with(edge, signal(7, 0, 21998, 2)), says([]int{0}, []int{5000}, top...), true}, {with(edge, signal(7, 0, 22003, 2)), says([]int{0}, []int{5000}, top...), false},
		{free, says(nil, nil, most, least), false}, {free, says(nil, nil, least, most), false}, {free, says(nil, nil, least, least), false}, {free, says(nil, nil, 0, least), false}, {free, says(nil, nil, 0, most), false}, {free, says(nil, nil, most, most), false},
		{edge, says([]int{least}, []int{0}, top...), false}, {edge, says([]int{most}, []int{0}, top...), false}, {edge, says([]int{0}, []int{least}, top...), false}, {edge, says([]int{0}, []int{most}, top...), false}, {with(edge, seen(7, 0, 27000, 0)), says([]int{least}, []int{least}, top...), false},
	} {
		if is, e := star.IsTruth(x.b, x.t); is != x.want || e != api.OK {
			t.Errorf("IsTruth %d: %v, %d", i, is, e)
		}
	}
}

// P3.2, P3.3, P3.5, P3.6: the examples of the chapter.
func TestExamples(t *testing.T) {
	if s := spans(t, book()); !slices.Equal(s, []api.Span{to(30, 85), to(45, 85), to(50, 105), to(-40, 15), to(-20, 20), to(30, 60)}) {
		t.Errorf("the spans: %v", s)
	}
	for i, x := range []struct {
		first, second int
		want          api.Span
	}{{0, 2, to(20, 40)}, {2, 0, to(-40, -20)}, {0, 1, to(0, 20)}} {
		if s := apart(t, book(), x.first, x.second); s != x.want {
			t.Errorf("Between %d: %v", i, s)
		}
	}
	if l := good[[]int](t, "Wrong")(star.Wrong(book())); len(l) != 0 {
		t.Errorf("Wrong: %v", l)
	}
	if l := good[[]int](t, "Wrong")(star.Wrong(torn())); !slices.Equal(l, []int{3}) {
		t.Errorf("Wrong of the torn book: %v", l)
	}
	if l := good[[]int](t, "Idle")(star.Idle(book())); len(l) != 0 {
		t.Errorf("Idle: %v", l)
	}
	if l := good[[]int](t, "Idle")(star.Idle(with(book(), spareLook))); !slices.Equal(l, []int{4}) {
		t.Errorf("Idle with a look more: %v", l)
	}
	if night, wide, e := star.Worst(book()); night != 0 || wide != 55 || e != api.OK {
		t.Errorf("Worst: %d, %d, %d", night, wide, e)
	}
}

// P3.2, P3.3: one look sharpens all that hangs together, over all nights, observers and stations, forwards and backwards.
func TestLongWays(t *testing.T) {
	wide, path := slices.Repeat([]api.Span{to(-2000, 2000)}, 4), slices.Repeat([]api.Span{to(0, 5000)}, 4)
	path[3] = to(70, 71)
	chain := with(among(nights(8, to(-20000, 20000), to(1, 1)), wide, path), signal(7, 3, 0, 0), seen(0, 0, 100, 0), signal(7, 0, -200, 0), seen(0, 1, 101, 0), signal(7, 1, -201, 0), seen(1, 2, 103, 0), signal(6, 2, -203, 0), seen(3, 3, 106, 0))
	want := []api.Span{to(63, 64), to(64, 65), to(65, 66), to(66, 67), to(67, 68), to(68, 69), to(69, 70), to(70, 71), to(36, 37), to(37, 38), to(38, 39), to(39, 40), to(270, 271), to(271, 272), to(272, 273), to(70, 71)}
	if s := spans(t, chain); !slices.Equal(s, want) {
		t.Errorf("the chain: %v", s)
	}
	if s := apart(t, chain, 7, 0); s != to(-7, -7) {
		t.Errorf("the ends of the chain: %v", s)
	}
	only := with(chain, seen(7, 3, 110, 0))
	only.Paths[3] = to(0, 5000)
	if s := good[api.Span](t, "Path")(star.Path(only, 3)); s != to(0, 2107) {
		t.Errorf("the station of a chain that is bound by its observers: %v", s)
	}
	if l := good[[]int](t, "Wrong")(star.Wrong(with(chain, seen(7, 3, 111, 0)))); !slices.Equal(l, []int{7}) {
		t.Errorf("Wrong of a chain that is torn: %v", l)
	}
}

// P3.2: offsets of later nights have no other bounds than those of Begin and Rate.
func TestLimits(t *testing.T) {
	free := nights(8, to(-20000, 20000), to(-1000, 1000))
	up := among(nights(8, to(20000, 20000), to(1000, 1000)), []api.Span{to(2000, 2000)}, []api.Span{to(0, 0)})
	for i, x := range []struct {
		got, want api.Span
	}{
		{spans(t, free)[7], to(-27000, 27000)}, {spans(t, free)[0], to(-20000, 20000)}, {apart(t, free, 0, 7), to(-7000, 7000)}, {apart(t, free, 7, 7), to(0, 0)},
		{spans(t, up)[7], to(27000, 27000)}, {spans(t, with(up, seen(7, 0, 29000, 0)))[7], to(27000, 27000)}, {spans(t, fullBook())[7], to(26000, 27000)},
		{apart(t, nights(5, to(0, 9), to(-3, 8)), 1, 3), to(-6, 16)}, {apart(t, nights(5, to(0, 9), to(-3, 8)), 3, 1), to(-16, 6)}, {apart(t, nights(1, to(-9, 9), to(-1, 1)), 0, 0), to(0, 0)},
	} {
		if x.got != x.want {
			t.Errorf("%d: %v instead of %v", i, x.got, x.want)
		}
	}
}

// P3.5: the fewest looks, and of several lists the first one.
func TestWrong(t *testing.T) {
	one := among(nights(1, to(-100, 100), to(0, 0)), []api.Span{to(0, 0), to(-5, 5)}, []api.Span{to(0, 9)})
	reads := func(reads ...int) api.StarBook {
		b := one
		for _, n := range reads {
			b = with(b, seen(0, 0, n, 1))
		}
		return b
	}
	for i, x := range []struct {
		b    api.StarBook
		want []int
	}{
		{one, nil}, {sharpBook(), nil}, {fullBook(), nil}, {reads(5), nil}, {reads(5, 7), nil}, {reads(5, 8), []int{0}}, {reads(5, 8, 5), []int{1}}, {reads(8, 5, 5), []int{0}}, {reads(5, 8, 11), []int{0, 1}}, {reads(5, 7, 9), []int{0}},
		{reads(5, 8, 5, 8), []int{0, 2}}, {reads(5, 8, 8, 5), []int{0, 3}}, {reads(8, 8, 5, 5), []int{0, 1}}, {reads(500), []int{0}}, {reads(500, 5, 600), []int{0, 2}}, {reads(500, 501), []int{0, 1}},
		{reads(0, 10, 20, 30, 40, 50, 60, 70, 80, 90), []int{0, 1, 2, 3, 4, 5, 6, 7, 8}}, {reads(0, 10, 20, 30, 40, 50, 60, 70, 80, 101), []int{0, 1, 2, 3, 4, 5, 6, 7, 8}}, {reads(0, 10, 20, 30, 40, 50, 60, 70, 80, 102), []int{0, 1, 2, 3, 4, 5, 6, 7, 9}},
		{reads(slices.Repeat([]int{20000}, 10)...), []int{0, 1, 2, 3, 4, 5, 6, 7, 8, 9}}, {reads(1, 2, 1, 2, 9, 2, 1, 9, 1, 2), []int{4, 7}},
		{with(one, seen(0, 1, 20, 0), seen(0, 0, 3, 0), signal(0, 0, 3, 0)), []int{0}}, {with(one, seen(0, 0, 3, 0), seen(0, 1, 20, 0), signal(0, 0, 12, 0)), []int{0}}, {with(one, seen(0, 1, 20, 0), signal(0, 0, 3, 0), seen(0, 0, 30, 0)), []int{0, 1}},
	} {
		if l, e := star.Wrong(x.b); !slices.Equal(l, x.want) || e != api.OK {
			t.Errorf("Wrong %d: %v, %d", i, l, e)
		}
	}
	for name, b := range falseBooks() {
		if l, e := star.Wrong(b); !slices.Equal(l, fewest(b, canByTable)) || len(l) == 0 || e != api.OK {
			t.Errorf("%s: Wrong: %v, %d", name, l, e)
		}
	}
}

// P3.6: looks that change nothing that is told, each by itself; those that change only what lies between nights are idle, too.
func TestIdle(t *testing.T) {
	one := among(nights(1, to(-100, 100), to(0, 0)), []api.Span{to(0, 0), to(-5, 5)}, []api.Span{to(0, 9)})
	free := among(nights(2, to(0, 10), to(-30, 30)), []api.Span{to(-40, 40)}, nil)
	for i, x := range []struct {
		b    api.StarBook
		want []int
	}{
		{one, nil}, {nights(8, to(0, 1), to(2, 3)), nil}, {with(one, seen(0, 0, 5, 1)), nil}, {with(one, seen(0, 0, 5, 1), seen(0, 0, 5, 1)), []int{0, 1}}, {with(one, seen(0, 0, 5, 1), seen(0, 0, 5, 2)), []int{1}}, {with(one, seen(0, 0, 5, 2), seen(0, 0, 5, 1)), []int{0}}, {with(one, seen(0, 0, 5, 1), seen(0, 0, 6, 1)), nil}, {with(one, seen(0, 0, 5, 1), seen(0, 0, 6, 1), seen(0, 0, 7, 1)), []int{1}},
		{with(one, seen(0, 0, 0, 100)), []int{0}}, {with(one, seen(0, 0, 0, 99)), nil}, {with(one, seen(0, 0, 100, 200), seen(0, 0, -100, 200)), []int{0, 1}}, {with(one, signal(0, 0, 0, 109)), []int{0}}, {with(one, signal(0, 0, -4, 105)), []int{0}}, {with(one, signal(0, 0, -4, 95)), nil},
		{sharpBook(), []int{0, 1, 2}}, {with(one, seen(0, 0, 5, 0), seen(0, 1, 5, 5), seen(0, 1, 6, 0)), []int{1}},
		// what binds only an offset and a personal error together, and neither of them alone
		{with(free, seen(0, 0, 5, 45)), []int{0}}, {with(free, seen(0, 0, 5, 35)), []int{0}}, {with(free, seen(0, 0, 5, 34)), nil}, {with(free, seen(1, 0, 5, 5)), []int{0}}, {with(free, seen(1, 0, 5, 4)), nil}, {with(free, seen(0, 0, 5, 35), seen(1, 0, 5, 5)), []int{0, 1}},
	} {
		if l, e := star.Idle(x.b); !slices.Equal(l, x.want) || e != api.OK {
			t.Errorf("Idle %d: %v, %d instead of %v", i, l, e, x.want)
		}
	}
}

// P3.6: a look that bounds only what lies between two nights, and no offset, personal error or delay, is idle.
func TestIdleBetween(t *testing.T) {
	b := with(among(nights(2, to(0, 10), to(-10, 10)), []api.Span{to(-5, 5), to(0, 0)}, nil), seen(1, 1, 5, 5), seen(0, 0, 5, 0))
	more := with(b, seen(1, 0, 5, 3))
	if s := apart(t, b, 0, 1); s != to(-10, 10) {
		t.Errorf("Between without the look: %v", s)
	}
	if s := apart(t, more, 0, 1); s != to(-3, 3) {
		t.Errorf("Between with the look: %v", s)
	}
	if l := good[[]int](t, "Idle")(star.Idle(more)); !slices.Contains(l, 2) {
		t.Errorf("Idle: %v", l)
	}
}

// P3.6: the first one of several nights, and a difference of 0.
func TestWorst(t *testing.T) {
	known := among(nights(3, to(0, 9), to(-1, 1)), []api.Span{to(0, 0)}, nil)
	for i, x := range []struct {
		b           api.StarBook
		night, wide int
		e           api.Errno
	}{
		{nights(3, to(4, 9), to(5, 5)), 0, 5, api.OK}, {nights(3, to(4, 4), to(5, 6)), 2, 2, api.OK}, {nights(1, to(-20000, 20000), to(0, 0)), 0, 40000, api.OK}, {nights(8, to(-20000, 20000), to(-1000, 1000)), 7, 54000, api.OK},
		{nights(1, to(4, 4), to(-9, 9)), 0, 0, api.ErrNone}, {nights(8, to(4, 4), to(-9, -9)), 0, 0, api.ErrNone}, {sharpBook(), 0, 0, api.ErrNone},
		{with(known, seen(0, 0, 5, 0)), 2, 4, api.OK}, {with(known, seen(2, 0, 5, 0)), 0, 4, api.OK}, {with(known, seen(1, 0, 5, 0)), 0, 2, api.OK}, {with(known, seen(0, 0, 5, 0), seen(2, 0, 5, 0)), 1, 2, api.OK}, {with(known, seen(0, 0, 5, 0), seen(2, 0, 7, 0)), 0, 0, api.ErrNone}, {with(known, seen(0, 0, 5, 0), seen(2, 0, 8, 0)), 0, 0, api.ErrStarFalse},
		// an observer of whom less is known than of any night
		{with(among(nights(1, to(4, 4), to(0, 0)), []api.Span{to(-9, 9)}, []api.Span{to(0, 9)}), seen(0, 0, 4, 5)), 0, 0, api.ErrNone},
	} {
		if night, wide, e := star.Worst(x.b); night != x.night || wide != x.wide || e != x.e {
			t.Errorf("Worst %d: %d, %d, %d", i, night, wide, e)
		}
	}
}

// P3.1 to P3.6: of small books all truths are listed.
func TestSmallBooks(t *testing.T) {
	can := func(b api.StarBook) bool { return len(truths(b)) > 0 }
	lies := 0
	for i, b := range small() {
		if l, e := star.Wrong(b); !slices.Equal(l, fewest(b, can)) || e != api.OK {
			t.Errorf("book %d: Wrong: %v, %d", i, l, e)
		}
		list := truths(b)
		if len(list) == 0 {
			lies++
			if _, e := star.Offset(b, 0); e != api.ErrStarFalse {
				t.Errorf("book %d: Offset: %d", i, e)
			}
			continue
		}
		checkListed(t, i, b, list)
		checkTruths(t, i, b, list)
	}
	if lies < 6 || lies > len(small())/2 {
		t.Errorf("%d of %d books cannot be true", lies, len(small()))
	}
}

// checkListed compares what is told of a book with its listed truths.
func checkListed(t *testing.T, i int, b api.StarBook, list []api.StarTruth) {
	want := listed(b, list)
	if s := spans(t, b); !slices.Equal(s, want) {
		t.Errorf("book %d: %v instead of %v", i, s, want)
	}
	for first := range b.Nights {
		for second := range b.Nights {
			want := between(list, func(t api.StarTruth) int { return t.Offsets[second] - t.Offsets[first] })
			if s := apart(t, b, first, second); s != want {
				t.Errorf("book %d: Between %d and %d: %v instead of %v", i, first, second, s, want)
			}
		}
	}
	spansOf := func(b api.StarBook) []api.Span { return listed(b, truths(b)) }
	if l, e := star.Idle(b); !slices.Equal(l, idle(b, spansOf)) || e != api.OK {
		t.Errorf("book %d: Idle: %v, %d", i, l, e)
	}
	checkWorst(t, i, b, want)
}

// checkWorst compares what is told of the worst night with the spans of the offsets, with which a list begins.
func checkWorst(t *testing.T, i int, b api.StarBook, list []api.Span) {
	want := api.OK
	night, wide := widest(list[:b.Nights])
	if wide == 0 {
		want = api.ErrNone
	}
	n, w, e := star.Worst(b)
	if n != night || w != wide || e != want {
		t.Errorf("book %d: Worst: %d, %d, %d", i, n, w, e)
	}
}

// checkTruths asks of listed truths, and of what differs from them in one number by 1, whether they are truths.
func checkTruths(t *testing.T, i int, b api.StarBook, list []api.StarTruth) {
	isListed := func(x api.StarTruth) bool {
		return slices.ContainsFunc(list, func(y api.StarTruth) bool { return sameTruth(x, y) })
	}
	for j := 0; j < len(list); j += 1 + len(list)/15 {
		for k := range b.Nights + len(b.People) + len(b.Paths) {
			for _, by := range []int{-1, 0, 1} {
				x := truthCopied(list[j])
				*numberOf(&x, k) += by
				if is, e := star.IsTruth(b, x); is != isListed(x) || e != api.OK {
					t.Errorf("book %d: IsTruth of %v: %v, %d", i, x, is, e)
				}
			}
		}
	}
}

// numberOf is a number of a truth, counted through.
func numberOf(t *api.StarTruth, k int) *int {
	for _, list := range [][]int{t.Offsets, t.People, t.Paths} {
		if k < len(list) {
			return &list[k]
		}
		k -= len(list)
	}
	return nil
}

// P3.2, P3.3, P3.5, P3.6: drawn books of all sizes are compared with the table.
func TestManyBooks(t *testing.T) {
	lies, idlers := 0, 0
	for i, b := range many(300) {
		told, can := tabled(b)
		if l, e := star.Wrong(b); !slices.Equal(l, fewest(b, canByTable)) || e != api.OK {
			t.Errorf("book %d: Wrong: %v, %d", i, l, e)
		}
		if !can {
			lies++
			if _, e := star.Offset(b, 0); e != api.ErrStarFalse {
				t.Errorf("book %d: Offset: %d", i, e)
			}
			continue
		}
		if s := spans(t, b); !slices.Equal(s, told.spans(b)) {
			t.Errorf("book %d: %v instead of %v", i, s, told.spans(b))
		}
		for first := range b.Nights {
			second := (first*5 + i) % b.Nights
			if s := apart(t, b, first, second); s != told.apart(numbered(second), numbered(first)) {
				t.Errorf("book %d: Between %d and %d: %v", i, first, second, s)
			}
		}
		want := idle(b, func(b api.StarBook) []api.Span { told, _ := tabled(b); return told.spans(b) })
		if l, e := star.Idle(b); !slices.Equal(l, want) || e != api.OK {
			t.Errorf("book %d: Idle: %v, %d", i, l, e)
		}
		idlers += min(len(want), 1)
		checkWorst(t, i, b, told.spans(b))
	}
	if lies < 50 || idlers < 50 {
		t.Errorf("%d books that cannot be true, and %d with idle looks: too few to tell something", lies, idlers)
	}
}
