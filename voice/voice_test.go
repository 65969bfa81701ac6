package voice_test

import (
	"math"
	"slices"
	"testing"

	"remontoir/api"
	"remontoir/voice"
)

// changed is the chapter's book, changed by one thing.
func changed(change func(b *api.VoiceBook)) api.VoiceBook {
	b := book()
	change(&b)
	return b
}

// wrongNumbers are numbers that are not from one to another one.
func wrongNumbers(low, high int) []int {
	return []int{low - 1, high + 1, low - 100, high + 100, math.MinInt, math.MaxInt}
}

// wrongSpans are none that lie between 0 and a number.
func wrongSpans(most int) []api.Span {
	return []api.Span{to(-1, most), to(0, most+1), to(-2, -1), to(most+1, most+2), to(1, 0), to(most, 0), to(math.MinInt, most), to(0, math.MaxInt), to(math.MaxInt, math.MinInt), to(math.MinInt, math.MaxInt)}
}

// wrongWords are no words of a piece, or of a text, that can have so many.
func wrongWords(most int) [][]int {
	list := [][]int{nil, {}, make([]int, most+1), make([]int, 1000)}
	for _, n := range wrongNumbers(0, 299) {
		list = append(list, []int{n}, append(make([]int, most-1), n), append([]int{n}, make([]int, most-1)...))
	}
	return list
}

// wrongBooks are books that are not valid, each by one thing.
func wrongBooks() []api.VoiceBook {
	list := []api.VoiceBook{
		{},
		changed(func(b *api.VoiceBook) { b.Discs = nil }),
		changed(func(b *api.VoiceBook) { b.Discs = []int{10} }),
		changed(func(b *api.VoiceBook) { b.Discs = []int{10, 16, 5, 5, 5} }),
		changed(func(b *api.VoiceBook) { b.Discs = make([]int, 5) }),
		changed(func(b *api.VoiceBook) { b.Pieces = nil }),
		changed(func(b *api.VoiceBook) { b.Pieces = slices.Repeat(b.Pieces[:1], 11) }),
		changed(func(b *api.VoiceBook) { b.Pieces = make([]api.VoicePiece, 1000) }),
		changed(func(b *api.VoiceBook) { b.Discs[0] = 7 }),  // too fast for where the piece 3 begins
		changed(func(b *api.VoiceBook) { b.Discs[1] = 13 }), // too fast for how long the piece 4 is
	}
	for _, n := range wrongNumbers(1, 500) {
		list = append(list, changed(func(b *api.VoiceBook) { b.Discs = []int{10, 16, n} }), changed(func(b *api.VoiceBook) { b.Discs[0] = n }))
	}
	for _, l := range wrongWords(4) {
		list = append(list, changed(func(b *api.VoiceBook) { b.Pieces[4].Words = l }))
	}
	for _, n := range wrongNumbers(0, 1) {
		list = append(list, changed(func(b *api.VoiceBook) { b.Pieces[2].Disc = n }))
	}
	for _, n := range wrongNumbers(0, 15) {
		list = append(list, changed(func(b *api.VoiceBook) { b.Pieces[2].Begin = n }))
	}
	for _, n := range wrongNumbers(1, 16) {
		list = append(list, changed(func(b *api.VoiceBook) { b.Pieces[4].Long = n }))
	}
	for _, s := range wrongSpans(200) {
		list = append(list, changed(func(b *api.VoiceBook) { b.Pause = s }))
	}
	for _, s := range wrongSpans(500) {
		list = append(list, changed(func(b *api.VoiceBook) { b.Rest = s }))
	}
	return list
}

// fullBook is as great as a book can be.
func fullBook() api.VoiceBook {
	b := api.VoiceBook{Discs: []int{500, 500, 1, 500}, Pause: to(0, 200), Rest: to(0, 500)}
	for i := range 10 {
		b.Pieces = append(b.Pieces, piece(i%2, 499-i, 500, 299, 0, 299, 0))
	}
	return b
}

// fastBook is one with as many ways to say something as there can be.
func fastBook() api.VoiceBook {
	return free(to(0, 200), to(0, 500), slices.Repeat([][]int{{7}}, 10)...)
}

// wrongTimes are times and pips that cannot be asked about.
func wrongTimes() [][2]int {
	return [][2]int{{-1, 0}, {-1, -1}, {5, 4}, {0, 6101}, {0, -1}, {1000, 7101}, {99999999, 100000001}, {100000001, 100000001}, {100000000, 99999999}, {math.MinInt, math.MaxInt}, {math.MaxInt, math.MinInt}, {math.MinInt, math.MinInt}, {math.MaxInt, math.MaxInt}, {math.MaxInt - 6100, math.MaxInt}, {0, math.MaxInt}, {math.MaxInt, 0}, {math.MinInt, 0}, {0, math.MinInt}}
}

// told is what one call told: its name, a list of numbers, and its error.
type told struct {
	name string
	list []int
	e    api.Errno
}

// flat are the numbers of a plan.
func flat(plan []api.VoiceStart) []int {
	var list []int
	for _, x := range plan {
		list = append(list, x.Piece, x.At)
	}
	return list
}

// number is a list of one number, or nil for 0.
func number(n int) []int {
	if n == 0 {
		return nil
	}
	return []int{n}
}

func truth(is bool) []int {
	if is {
		return []int{1}
	}
	return nil
}

// byText are all calls with a text.
func byText(b api.VoiceBook, text []int) []told {
	fewest, e := voice.Fewest(b, text)
	needed, f := voice.Needed(b, [][]int{text})
	return []told{{"Fewest", fewest, e}, {"Needed", needed, f}}
}

// byTimes are all calls with a text and times.
func byTimes(b api.VoiceBook, text []int, from, pip int, plan []api.VoiceStart) []told {
	is, e := voice.IsPlan(b, text, from, pip, plan)
	found, f := voice.Plan(b, text, from, pip)
	latest, g := voice.Latest(b, text, from, pip)
	return []told{{"IsPlan", truth(is), e}, {"Plan", flat(found), f}, {"Latest", number(latest), g}}
}

// byDay is the call with a calendar.
func byDay(b api.VoiceBook, c api.DialCalendar, tick, each, many int) []told {
	list, e := voice.Day(b, c, tick, each, many)
	return []told{{"Day", list, e}}
}

func checkErrors(t *testing.T, where string, list []told, e api.Errno) {
	t.Helper()
	for _, x := range list {
		if len(x.list) > 0 || x.e != e {
			t.Errorf("%s: %s: %v, %d instead of %d", where, x.name, x.list, x.e, e)
		}
	}
}

// P5.1: which books are valid.
func TestCheck(t *testing.T) {
	for i, b := range wrongBooks() {
		if e := voice.Check(b); e != api.ErrVoice {
			t.Errorf("the wrong book %d: %d", i, e)
		}
	}
	edges := []api.VoiceBook{
		book(), fullBook(), fastBook(), hour(to(0, 0), to(0, 0)), hour(to(200, 200), to(500, 500)), free(to(0, 200), to(0, 500), []int{0}), free(to(7, 7), to(7, 7), []int{299, 299, 299, 299}),
		{Discs: []int{500}, Pieces: []api.VoicePiece{piece(0, 499, 500, 0)}}, {Discs: []int{1, 1, 1, 2}, Pieces: []api.VoicePiece{piece(3, 1, 2, 0), piece(3, 1, 2, 0)}},
	}
	for _, q := range many(60) {
		edges = append(edges, q.b)
	}
	for i, b := range edges {
		if e := voice.Check(b); e != api.OK {
			t.Errorf("the valid book %d: %d", i, e)
		}
	}
}

// P5.1, P1: all functions return ErrVoice first, also where every other error applies, and zero values with it.
func TestWrongBookFirst(t *testing.T) {
	day := calendars()[0]
	for _, b := range wrongBooks() {
		for _, words := range [][]int{nil, text(), {7}} {
			checkErrors(t, "a wrong book", byText(b, words), api.ErrVoice)
			checkErrors(t, "a wrong book", byTimes(b, words, 0, 60, at(2, 32, 3, 47)), api.ErrVoice)
			checkErrors(t, "a wrong book", byTimes(b, words, -1, 7000, nil), api.ErrVoice)
		}
		_, e := voice.Needed(b, nil)
		checkErrors(t, "a wrong book", []told{{"Needed", nil, e}}, api.ErrVoice)
		checkErrors(t, "a wrong book", byDay(b, day, 0, 5, 1), api.ErrVoice)
		checkErrors(t, "a wrong book", byDay(b, api.DialCalendar{}, -1, 0, 0), api.ErrVoice)
	}
}

// P5.1: the words of a reading, and what has none.
func TestWords(t *testing.T) {
	for i, x := range []struct {
		r    api.DialReading
		want []int
	}{
		{api.DialReading{Hour: 1, Minute: 2, Second: 5}, []int{1, 102, 205}}, {api.DialReading{}, []int{0, 100, 200}}, {api.DialReading{Day: math.MinInt, Hour: 23, Minute: 59, Second: 60}, []int{23, 159, 260}},
		{api.DialReading{Day: math.MaxInt, Hour: 99}, []int{99, 100, 200}}, {api.DialReading{Minute: 99}, []int{0, 199, 200}}, {api.DialReading{Day: -1, Second: 99}, []int{0, 100, 299}},
	} {
		if l, e := voice.Words(x.r); !slices.Equal(l, x.want) || e != api.OK {
			t.Errorf("Words %d: %v, %d", i, l, e)
		}
	}
	for _, n := range wrongNumbers(0, 99) {
		for i, r := range []api.DialReading{{Hour: n}, {Minute: n}, {Second: n}, {Hour: n, Minute: n, Second: n}, {Hour: 100 - n, Minute: n - 100, Second: n}} {
			if l, e := voice.Words(r); len(l) > 0 || e != api.ErrVoiceAsk {
				t.Errorf("Words of %d, %d: %v, %d", n, i, l, e)
			}
		}
	}
}

// P5.2, P5.3, P5.4, P5.5, P1: wrong texts, which come before wrong times and what cannot be said, and zero values with the error.
func TestWrongTexts(t *testing.T) {
	for i, words := range wrongWords(8) {
		checkErrors(t, "a wrong text", byText(book(), words), api.ErrVoiceText)
		checkErrors(t, "a wrong text", byTimes(book(), words, 0, 60, nil), api.ErrVoiceText)
		for _, x := range wrongTimes() {
			checkErrors(t, "a wrong text", byTimes(book(), words, x[0], x[1], at(2, 32, 3, 47)), api.ErrVoiceText)
		}
		for _, texts := range [][][]int{{text(), words}, {words, text()}, {{7}, words}, {words, {7}}, {text(), text(), text(), text(), text(), words}} {
			if l, e := voice.Needed(book(), texts); len(l) > 0 || e != api.ErrVoiceText {
				t.Errorf("Needed, the wrong text %d: %v, %d", i, l, e)
			}
		}
	}
	for i, texts := range [][][]int{nil, {}, slices.Repeat([][]int{text()}, 7), slices.Repeat([][]int{{7}}, 7), make([][]int, 1000)} {
		if l, e := voice.Needed(book(), texts); len(l) > 0 || e != api.ErrVoiceText {
			t.Errorf("Needed, the wrong texts %d: %v, %d", i, l, e)
		}
	}
}

// P5.4, P5.5, P1: times that cannot be asked about, which come before what cannot be said, and times at the edges that can.
func TestWrongTimes(t *testing.T) {
	for _, x := range wrongTimes() {
		for _, words := range [][]int{text(), {7}, {299, 0, 299, 0, 299, 0, 299, 0}} {
			checkErrors(t, "wrong times", byTimes(book(), words, x[0], x[1], at(2, 32, 3, 47)), api.ErrVoiceAsk)
			checkErrors(t, "wrong times", byTimes(book(), words, x[0], x[1], nil), api.ErrVoiceAsk)
		}
	}
	one := free(to(0, 0), to(0, 500), []int{7})
	for _, x := range [][2]int{{0, 1}, {0, 6100}, {100, 6200}, {99993900, 100000000}, {99999999, 100000000}} {
		if l, e := voice.Plan(one, []int{7}, x[0], x[1]); len(l) != 1 || e != api.OK || l[0].At < x[0] || l[0].At >= x[1] {
			t.Errorf("Plan for %v: %v, %d", x, l, e)
		}
		if n, e := voice.Latest(one, []int{7}, x[0], x[1]); n != x[1]-1 || e != api.OK {
			t.Errorf("Latest for %v: %d, %d", x, n, e)
		}
		if is, e := voice.IsPlan(one, []int{7}, x[0], x[1], at(0, x[1]-1)); !is || e != api.OK {
			t.Errorf("IsPlan for %v: %v, %d", x, is, e)
		}
	}
	for _, n := range []int{0, 100, 100000000} { // there is no time for a piece
		list := byTimes(one, []int{7}, n, n, at(0, n))
		checkErrors(t, "no time", list[:1], api.OK)
		checkErrors(t, "no time", list[1:], api.ErrNone)
	}
}

// checkPieces checks which pieces are told; nil, if there are none.
func checkPieces(t *testing.T, i int, list []int, e api.Errno, want []int) {
	t.Helper()
	wanted := api.OK
	if want == nil {
		wanted = api.ErrNone
	}
	if !slices.Equal(list, want) || e != wanted {
		t.Errorf("%d: %v, %d instead of %v", i, list, e, want)
	}
}

// P5.2: the examples of the chapter; fewer pieces before ones that come first, and the first ones of as few.
func TestFewest(t *testing.T) {
	long := free(to(0, 0), to(0, 0), []int{7}, []int{7, 7}, []int{7, 7, 7})
	twice := free(to(0, 0), to(0, 0), []int{4, 5}, []int{3}, []int{3, 4}, []int{5}, []int{3, 4}, []int{5})
	for i, x := range []struct {
		b          api.VoiceBook
		text, want []int
	}{
		{book(), text(), []int{0, 4}}, {book(), []int{102, 205, 1}, []int{4, 0}}, {book(), []int{205, 102}, []int{3, 1}}, {book(), []int{1}, []int{0}}, {book(), []int{1, 102, 1, 102, 205}, []int{2, 0, 4}}, {book(), []int{205, 205, 1, 7}, nil}, {book(), []int{7}, nil}, {book(), []int{102, 7}, nil}, {book(), []int{1, 102, 205, 1, 102, 205, 1, 102}, []int{0, 4, 0, 4, 2}}, {book(), []int{299, 0}, nil},
		{long, []int{7}, []int{0}}, {long, []int{7, 7, 7, 7}, []int{0, 2}}, {long, []int{7, 7, 7, 7, 7}, []int{1, 2}}, {long, []int{7, 7, 7, 7, 7, 7}, []int{2, 2}}, {long, []int{7, 7, 7, 7, 7, 7, 7, 7}, []int{1, 2, 2}},
		{twice, []int{3, 4, 5}, []int{1, 0}}, {twice, []int{3, 4, 5, 3}, []int{1, 0, 1}}, {twice, []int{3, 4, 3, 4}, []int{2, 2}}, {twice, []int{5}, []int{3}}, {twice, []int{4}, nil}, {twice, []int{4, 5, 4}, nil},
		{free(to(0, 0), to(0, 0), []int{7, 7}), []int{7, 7, 7}, nil}, {free(to(0, 0), to(0, 0), []int{7, 7, 7}, []int{7, 7}), []int{7, 7, 7, 7}, []int{1, 1}}, {free(to(0, 0), to(0, 0), []int{7, 7, 7, 7}), []int{7, 7}, nil},
		{fastBook(), []int{7, 7, 7, 7, 7, 7, 7, 7}, make([]int, 8)}, {fastBook(), []int{7, 7, 7, 7, 7, 7, 7, 8}, nil}, {fullBook(), []int{299, 0, 299, 0, 299, 0, 299, 0}, []int{0, 0}},
	} {
		l, e := voice.Fewest(x.b, x.text)
		checkPieces(t, i, l, e, x.want)
	}
}

// P5.3: the examples of the chapter; fewer pieces before ones that come first, and the first ones of as few.
func TestNeeded(t *testing.T) {
	long := free(to(0, 0), to(0, 0), []int{7, 7}, []int{7, 7, 7}, []int{7})
	ten := free(to(0, 0), to(0, 0), []int{0}, []int{1}, []int{2}, []int{3}, []int{4}, []int{5}, []int{6}, []int{7}, []int{8}, []int{9})
	last := free(to(0, 0), to(0, 0), []int{1}, []int{2}, []int{1, 3}, []int{2, 3}, []int{3}, []int{1, 2, 3}, []int{3, 3})
	for i, x := range []struct {
		b     api.VoiceBook
		texts [][]int
		want  []int
	}{
		{book(), [][]int{text()}, []int{0, 4}}, {book(), [][]int{text(), {102}}, []int{0, 1, 3}}, {book(), [][]int{{102}, text()}, []int{0, 1, 3}}, {book(), [][]int{{1, 102, 205, 1, 102, 205}}, []int{0, 4}}, {book(), [][]int{{205}, {1}, {102}, {1, 102}, {102, 205}, text()}, []int{0, 1, 3}}, {book(), [][]int{{205}, {205}}, []int{3}},
		{book(), [][]int{{7}}, nil}, {book(), [][]int{text(), {7}}, nil}, {book(), [][]int{{7}, text()}, nil}, {book(), [][]int{{102, 1}, {205, 102}, {205, 7, 1}}, nil},
		{long, [][]int{{7, 7, 7, 7}}, []int{0}}, {long, [][]int{{7, 7, 7, 7, 7, 7}}, []int{0}}, {long, [][]int{{7, 7, 7}}, []int{1}}, {long, [][]int{{7, 7, 7}, {7, 7}}, []int{2}}, {long, [][]int{{7, 7, 7, 7, 7}}, []int{2}}, {long, [][]int{{7, 7, 7, 7, 7, 7}, {7, 7, 7}}, []int{1}},
		{ten, [][]int{{0, 1, 2, 3, 4, 5, 6, 7}, {8, 9}}, []int{0, 1, 2, 3, 4, 5, 6, 7, 8, 9}}, {ten, [][]int{{9}}, []int{9}}, {ten, [][]int{{9, 0}, {5}}, []int{0, 5, 9}},
		{last, [][]int{{1, 2, 3}}, []int{5}}, {last, [][]int{{1, 2, 3}, {1}}, []int{0, 3}}, {last, [][]int{{1, 2, 3}, {3, 3}}, []int{4, 5}}, {last, [][]int{{1, 2}, {1, 3}, {2, 3}}, []int{0, 1, 4}}, {last, [][]int{{3, 3}, {3, 3, 3, 3}}, []int{4}},
		{fastBook(), slices.Repeat([][]int{{7, 7, 7, 7, 7, 7, 7, 7}}, 6), []int{0}}, {fullBook(), [][]int{{299, 0, 299, 0}}, []int{0}},
	} {
		l, e := voice.Needed(x.b, x.texts)
		checkPieces(t, i, l, e, x.want)
	}
}

// P5.4: what is a plan: when each piece can begin, the pauses and the rest at both of their ends, and numbers so great that they wrap around.
func TestIsPlan(t *testing.T) {
	any := free(to(2, 3), to(4, 5), []int{1}, []int{2}, []int{1, 2})
	for i, x := range []struct {
		q    question
		plan []api.VoiceStart
		want bool
	}{
		{question{book(), text(), 0, 60}, at(2, 16, 3, 27), false}, {question{book(), text(), 0, 60}, at(2, 32, 3, 47), true}, {question{book(), text(), 32, 60}, at(2, 32, 3, 47), true}, {question{book(), text(), 33, 60}, at(2, 32, 3, 47), false}, {question{book(), text(), 0, 60}, at(0, 32, 4, 41), true}, {question{book(), text(), 0, 60}, at(2, 31, 3, 47), false}, {question{book(), text(), 0, 60}, at(2, 32, 3, 48), false},
		{question{book(), text(), 0, 55}, at(2, 32, 3, 47), true}, {question{book(), text(), 0, 54}, at(2, 32, 3, 47), false}, {question{book(), text(), 0, 73}, at(2, 32, 3, 47), true}, {question{book(), text(), 0, 74}, at(2, 32, 3, 47), false}, {question{book(), text(), 0, 48}, at(2, 32, 3, 47), false}, {question{book(), text(), 0, 25}, at(2, 0, 3, 17), true},
		{question{any, []int{1, 2}, 0, 9}, at(0, 0, 1, 3), true}, {question{any, []int{1, 2}, 0, 9}, at(0, 0, 1, 4), true}, {question{any, []int{1, 2}, 0, 8}, at(0, 0, 1, 2), false}, {question{any, []int{1, 2}, 0, 10}, at(0, 0, 1, 5), false}, {question{any, []int{1, 2}, 0, 10}, at(0, 1, 1, 1), false}, {question{any, []int{1, 2}, 0, 10}, at(0, 4, 1, 1), false},
		{question{any, []int{1, 2}, 1, 9}, at(0, 1, 1, 4), true}, {question{any, []int{1, 2}, 1, 9}, at(0, 0, 1, 4), false}, {question{any, []int{1, 2}, 4, 9}, at(2, 4), true}, {question{any, []int{1, 2}, 4, 9}, at(2, 3), false}, {question{any, []int{1, 2}, 3, 9}, at(2, 3), true}, {question{any, []int{1, 2}, 2, 9}, at(2, 2), false}, {question{any, []int{1, 2}, 4, 9}, at(2, 5), false},
		{question{any, []int{1, 2, 1, 2}, 0, 10}, at(2, 0, 2, 4), true}, {question{any, []int{1, 2, 1, 2}, 0, 12}, at(0, 0, 1, 4, 2, 7), true}, {question{any, []int{1, 2, 1, 2}, 0, 13}, at(0, 0, 1, 4, 2, 8), true}, {question{any, []int{1, 2, 1, 2}, 0, 11}, at(0, 0, 1, 4, 2, 6), false}, {question{any, []int{1, 2, 1, 2}, 0, 13}, at(0, 0, 1, 5, 2, 8), false},
		{question{any, []int{1, 2}, 0, 9}, nil, false}, {question{any, []int{1, 2}, 0, 9}, at(0, 4), false}, {question{any, []int{1, 2}, 0, 9}, at(1, 4), false}, {question{any, []int{1, 2}, 0, 9}, at(1, 0, 0, 3), false}, {question{any, []int{1, 2}, 0, 9}, at(0, 0, 0, 3), false}, {question{any, []int{1}, 0, 9}, at(2, 4), false}, {question{any, []int{1, 2}, 0, 9}, at(2, 0, 2, 4), false}, {question{any, []int{1, 2}, 0, 9}, at(2, 0, 0, 3), false}, {question{any, []int{1, 2}, 0, 9}, make([]api.VoiceStart, 1000), false}, {question{any, []int{1}, 0, 9}, make([]api.VoiceStart, 1), false},
		{question{any, []int{1, 2}, 0, 9}, at(3, 4), false}, {question{any, []int{1, 2}, 0, 9}, at(-1, 4), false}, {question{any, []int{1, 2}, 0, 9}, at(math.MaxInt, 4), false}, {question{any, []int{1, 2}, 0, 9}, at(math.MinInt, 4), false}, {question{any, []int{1, 2}, 0, 9}, at(0, 0, 3, 3), false}, {question{any, []int{1, 2}, 0, 9}, at(0, 0, -1, 3), false}, {question{any, []int{1, 2}, 0, 9}, at(2, 4, 3, 7), false}, {question{any, []int{1, 2}, 0, 9}, at(2, 4, -1, 7), false},
		{question{any, []int{1, 2}, 0, 9}, at(2, math.MaxInt), false}, {question{any, []int{1, 2}, 0, 9}, at(2, math.MinInt), false}, {question{any, []int{1, 2}, 0, 9}, at(2, -1), false}, {question{any, []int{1, 2}, 0, 4}, at(2, -1), false}, {question{any, []int{1, 2}, 0, 9}, at(0, math.MaxInt, 1, math.MinInt+3), false}, {question{any, []int{1, 2}, 0, 9}, at(0, 0, 1, math.MaxInt), false}, {question{any, []int{1, 2}, 0, 9}, at(0, 0, 1, math.MinInt), false}, {question{any, []int{1, 2}, 0, 9}, at(0, -1, 1, 3), false},
		{question{book(), text(), 0, 6}, at(2, -16, 3, -3), false}, {question{book(), text(), 99993900, 100000000}, at(2, 99999968, 3, 99999987), false}, {question{book(), text(), 99993900, 100000000}, at(2, 99999952, 3, 99999967), false}, {question{book(), text(), 99993900, 99999993}, at(2, 99999952, 3, 99999967), true}, {question{book(), text(), 99993900, 100000000}, at(2, 99999968, 3, 99999987), false},
	} {
		if is, e := voice.IsPlan(x.q.b, x.q.text, x.q.from, x.q.pip, x.plan); is != x.want || e != api.OK {
			t.Errorf("IsPlan %d: %v, %d", i, is, e)
		}
		if isPlan(x.q, x.plan) != x.want {
			t.Errorf("the model of IsPlan %d: %v", i, !x.want)
		}
	}
}

// P5.5: the examples of the chapter, and what is at the edges: a plan with fewer pieces that begins sooner, and discs that turn to a piece too late.
func TestPlanAndLatest(t *testing.T) {
	three := free(to(1, 1), to(1, 1), []int{1}, []int{2}, []int{1, 2})
	slow := api.VoiceBook{Discs: []int{1, 50}, Pause: to(0, 0), Rest: to(0, 5), Pieces: []api.VoicePiece{piece(0, 0, 1, 1), piece(0, 0, 1, 2), piece(1, 30, 20, 1, 2)}}
	// behind the piece 0 the piece 1 never comes in time, and 2 only now and then
	apart := api.VoiceBook{Discs: []int{10, 10, 7}, Pause: to(0, 3), Rest: to(0, 9), Pieces: []api.VoicePiece{piece(0, 0, 5, 1), piece(1, 9, 1, 2), piece(2, 6, 3, 2)}}
	wait := api.VoiceBook{Discs: []int{500}, Pause: to(200, 200), Rest: to(500, 500), Pieces: []api.VoicePiece{piece(0, 0, 300, 7)}}
	for i, x := range []struct {
		q    question
		want answer
	}{
		{question{book(), text(), 0, 60}, answer{2, 32}}, {question{book(), text(), 0, 30}, answer{2, 2}}, {question{book(), text(), 0, 20}, noPlan}, {question{book(), text(), 33, 60}, noPlan}, {question{book(), text(), 3600, 4100}, answer{2, 4064}}, {question{book(), []int{7}, 0, 60}, noPlan}, {question{book(), []int{1, 7}, 0, 60}, noPlan},
		{question{three, []int{1, 2}, 0, 10}, answer{1, 8}}, {question{three, []int{1, 2}, 8, 10}, answer{1, 8}}, {question{three, []int{1, 2}, 9, 10}, noPlan}, {question{three, []int{1, 2, 1, 2, 2, 1, 1, 2}, 0, 15}, answer{5, 5}}, {question{three, []int{1, 2, 1, 2, 2, 1, 1, 2}, 6, 15}, noPlan}, {question{three, []int{2, 1}, 0, 4}, answer{2, 0}}, {question{three, []int{2, 1}, 0, 3}, noPlan},
		{question{slow, []int{1, 2}, 0, 50}, answer{1, 48}}, {question{slow, []int{1, 2}, 0, 49}, answer{2, 47}}, {question{slow, []int{1, 2}, 0, 55}, answer{1, 53}}, {question{slow, []int{1, 2}, 0, 56}, answer{2, 54}}, {question{slow, []int{1, 2}, 30, 55}, answer{1, 53}}, {question{slow, []int{1, 2}, 31, 55}, answer{2, 53}}, {question{slow, []int{1, 2, 1, 2}, 0, 50}, answer{3, 46}}, {question{slow, []int{1, 2, 1, 2}, 0, 52}, answer{3, 48}}, {question{slow, []int{1, 2, 1, 2}, 0, 48}, answer{4, 44}}, {question{slow, []int{1, 2, 1, 2}, 29, 50}, answer{4, 46}}, {question{slow, []int{1, 2, 1, 2}, 28, 50}, answer{3, 46}}, {question{slow, []int{1, 2, 1, 2}, 0, 6100}, answer{3, 6096}},
		{question{apart, []int{1, 2}, 0, 10}, answer{2, 0}}, {question{apart, []int{1, 2}, 0, 15}, answer{2, 0}}, {question{apart, []int{1, 2}, 0, 18}, answer{2, 0}}, {question{apart, []int{1, 2}, 0, 19}, noPlan}, {question{apart, []int{1, 2}, 0, 8}, noPlan}, {question{apart, []int{1, 2}, 0, 9}, answer{2, 0}}, {question{apart, []int{1, 2}, 1, 19}, noPlan}, {question{apart, []int{1, 2}, 1, 35}, answer{2, 20}},
		{question{wait, []int{7}, 0, 800}, answer{1, 0}}, {question{wait, []int{7}, 0, 799}, noPlan}, {question{wait, []int{7}, 1, 1300}, answer{1, 500}}, {question{wait, []int{7, 7, 7, 7, 7, 7, 7, 7}, 0, 4300}, answer{8, 0}}, {question{wait, []int{7, 7, 7, 7, 7, 7, 7, 7}, 500, 4800}, answer{8, 500}}, {question{wait, []int{7, 7, 7, 7, 7, 7, 7, 7}, 501, 4800}, noPlan}, {question{wait, []int{7, 7, 7, 7, 7, 7, 7, 7}, 99990000, 99996100}, noPlan}, {question{wait, []int{7, 7, 7, 7, 7, 7, 7, 7}, 99990000, 99995800}, answer{8, 99991500}},
	} {
		checkPlans(t, i, x.q, x.want)
		if m := marked(x.q); m != x.want {
			t.Errorf("the model, %d: %v", i, m)
		}
	}
	eight := slices.Repeat([]int{7}, 8)
	checkPlans(t, -1, question{fastBook(), eight, 0, 6100}, answer{8, 6092})
	checkPlans(t, -2, question{fastBook(), eight, 5000, 5008}, answer{8, 5000})
	checkPlans(t, -3, question{fastBook(), eight, 5000, 5007}, noPlan)
	checkPlans(t, -4, question{fullBook(), slices.Repeat([]int{299, 0}, 4), 0, 2000}, answer{2, 999})
}

// checkPlans checks what is told of plans.
func checkPlans(t *testing.T, i int, q question, want answer) {
	t.Helper()
	plan, e := voice.Plan(q.b, q.text, q.from, q.pip)
	latest, f := voice.Latest(q.b, q.text, q.from, q.pip)
	if want == noPlan {
		checkErrors(t, "no plan", []told{{"Plan", flat(plan), e}, {"Latest", number(latest), f}}, api.ErrNone)
		return
	}
	if len(plan) != want.pieces || e != api.OK || !isPlan(q, plan) {
		t.Errorf("Plan %d: %v, %d instead of %d pieces", i, plan, e, want.pieces)
	}
	if latest != want.latest || f != api.OK {
		t.Errorf("Latest %d: %d, %d instead of %d", i, latest, f, want.latest)
	}
}

// P5.6: wrong questions of all kinds, and questions at the edges.
func TestWrongDays(t *testing.T) {
	b, c := hour(to(0, 60), to(0, 90)), calendars()[0]
	for i, x := range []struct {
		c                api.DialCalendar
		tick, each, many int
	}{
		{c, -1, 5, 1}, {c, 72, 5, 1}, {c, math.MinInt, 5, 1}, {c, math.MaxInt, 5, 1}, {c, 0, 0, 1}, {c, 0, -1, 1}, {c, 0, 61, 1}, {c, 0, math.MaxInt, 1}, {c, 0, math.MinInt, 1}, {c, 0, 5, 0}, {c, 0, 5, -1}, {c, 0, 5, 21}, {c, 0, 5, math.MaxInt}, {c, 0, 5, math.MinInt}, {c, 71, 61, 1}, {c, 71, 5, 0},
		{api.DialCalendar{}, 0, 5, 1}, {api.DialCalendar{Hours: 2, Minutes: 2, Seconds: 1, Days: 3}, 0, 5, 1}, {api.DialCalendar{Hours: 2, Minutes: 2, Seconds: 6, Days: 3, Decrees: []api.DialDecree{{Day: 3}}}, 0, 5, 1}, {api.DialCalendar{Hours: math.MaxInt, Minutes: math.MaxInt, Seconds: math.MaxInt, Days: math.MaxInt}, 0, 5, 1}, {calendars()[2], 71, 5, 1}, {calendars()[1], 73, 5, 1},
	} {
		checkErrors(t, "a wrong question", byDay(b, x.c, x.tick, x.each, x.many), api.ErrVoiceAsk)
		if t.Failed() {
			t.Fatalf("the wrong question %d", i)
		}
	}
	for i, x := range []struct {
		c                      api.DialCalendar
		tick, each, many, want int
	}{
		{c, 0, 1, 20, 20}, {c, 0, 60, 1, 1}, {c, 71, 1, 20, 0}, {c, 70, 1, 20, 1}, {c, 66, 6, 20, 0}, {c, 65, 6, 20, 1}, {c, 0, 60, 20, 11}, {calendars()[1], 72, 1, 1, 0}, {calendars()[1], 67, 6, 1, 0}, {calendars()[1], 66, 6, 1, 1}, {calendars()[3], 72, 1, 20, 0}, {calendars()[3], 66, 60, 20, 0}, {calendars()[3], 66, 3, 20, 2},
	} {
		if l, e := voice.Day(b, x.c, x.tick, x.each, x.many); len(l) != x.want || e != api.OK {
			t.Errorf("Day %d: %v, %d", i, l, e)
		}
	}
}

// P5.6: announcements: of the second that is put in, and of the days around it; from the tick on, and from pip to pip.
func TestDay(t *testing.T) {
	// its pieces, each of which says a whole reading, can be so long that they just end at the pip
	slow := func(long int) api.VoiceBook {
		return api.VoiceBook{Discs: []int{500}, Rest: to(0, 500), Pieces: []api.VoicePiece{piece(0, 0, long, 0, 100, 203), piece(0, 300, long, 0, 101, 200), piece(0, 100, long, 0, 101, 203)}}
	}
	last := free(to(1, 1), to(1, 1), []int{1, 101}, []int{205}, []int{206}, []int{1, 101, 203})
	plain, plus, minus := calendars()[0], calendars()[1], calendars()[2]
	for i, x := range []struct {
		b                api.VoiceBook
		c                api.DialCalendar
		tick, each, many int
		want             []int
	}{
		{slow(300), plain, 0, 3, 4, []int{1, 1, 1, -1}}, {slow(299), plain, 0, 3, 3, []int{1, 1, 1}}, {slow(301), plain, 0, 3, 3, []int{-1, -1, -1}}, {slow(300), plain, 0, 60, 1, []int{1}}, {slow(200), plain, 1, 3, 3, []int{-1, 1, 1}}, {slow(300), plain, 0, 6, 2, []int{1, -1}}, {slow(301), plain, 0, 6, 1, []int{-1}},
		{last, plain, 18, 1, 9, []int{-1, -1, 1, -1, 2, -1, -1, -1, -1}}, {last, plus, 22, 1, 3, []int{2, 2, -1}}, {last, plus, 21, 6, 3, []int{2, -1, -1}}, {last, minus, 22, 1, 2, []int{2, -1}}, {last, minus, 45, 1, 3, []int{-1, -1, -1}}, {last, minus, 45, 5, 2, []int{-1, -1}}, {last, minus, 46, 1, 20, slices.Repeat([]int{-1}, 20)}, {last, minus, 69, 1, 20, []int{2}},
		{last, plain, 71, 1, 20, nil}, {last, plain, 70, 5, 1, []int{2}}, {last, plain, 71, 5, 1, nil},
	} {
		if l, e := voice.Day(x.b, x.c, x.tick, x.each, x.many); !slices.Equal(l, x.want) || e != api.OK {
			t.Errorf("Day %d: %v, %d", i, l, e)
		}
		if l := announced(x.b, x.c, x.tick, x.each, x.many); !slices.Equal(l, x.want) {
			t.Errorf("the model of Day %d: %v", i, l)
		}
	}
}
