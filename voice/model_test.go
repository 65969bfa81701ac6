package voice_test

import (
	"math/rand"
	"slices"
	"testing"

	"remontoir/api"
)

// Four models. All lists of pieces that say a text are listed, and the best of them is picked; all sets of pieces are counted through. For plans: of small books all of them are listed, as the chapter defines them, and of others all times are marked at which each piece of each list can begin, from the last piece back to the first one. For announcements: all readings of a calendar are listed.

func to(low, high int) api.Span { return api.Span{Low: low, High: high} }

func piece(disc, begin, long int, words ...int) api.VoicePiece {
	return api.VoicePiece{Words: words, Disc: disc, Begin: begin, Long: long}
}

// book is that of the chapter's examples, and text is what it says there.
func book() api.VoiceBook {
	return api.VoiceBook{Discs: []int{10, 16}, Pause: to(1, 6), Rest: to(2, 20), Pieces: []api.VoicePiece{
		piece(0, 2, 5, 1), piece(1, 4, 8, 102), piece(1, 0, 12, 1, 102), piece(0, 7, 6, 205), piece(1, 9, 14, 102, 205),
	}}
}

func text() []int { return []int{1, 102, 205} }

// free is a book whose pieces have such words, are 1 long, and can begin at any time.
func free(pause, rest api.Span, words ...[]int) api.VoiceBook {
	b := api.VoiceBook{Discs: []int{1}, Pause: pause, Rest: rest}
	for _, l := range words {
		b.Pieces = append(b.Pieces, piece(0, 0, 1, l...))
	}
	return b
}

// copied is a copy of a book that shares nothing with it.
func copied(b api.VoiceBook) api.VoiceBook {
	b.Discs, b.Pieces = slices.Clone(b.Discs), slices.Clone(b.Pieces)
	for i := range b.Pieces {
		b.Pieces[i].Words = slices.Clone(b.Pieces[i].Words)
	}
	return b
}

// with is a book with pieces more.
func with(b api.VoiceBook, pieces ...api.VoicePiece) api.VoiceBook {
	b = copied(b)
	b.Pieces = append(b.Pieces, pieces...)
	return b
}

func within(n, low, high int) bool { return low <= n && n <= high }

func has(s api.Span, n int) bool { return within(n, s.Low, s.High) }

// at is a plan: a piece and its time, and the next ones.
func at(numbers ...int) []api.VoiceStart {
	var list []api.VoiceStart
	for i := 0; i < len(numbers); i += 2 {
		list = append(list, api.VoiceStart{Piece: numbers[i], At: numbers[i+1]})
	}
	return list
}

// said are the words of pieces, one after the other.
func said(b api.VoiceBook, pieces []int) []int {
	var words []int
	for _, i := range pieces {
		words = append(words, b.Pieces[i].Words...)
	}
	return words
}

// piecesOf are the pieces of a plan.
func piecesOf(plan []api.VoiceStart) []int {
	var list []int
	for _, x := range plan {
		list = append(list, x.Piece)
	}
	return list
}

// lists are all lists of pieces that say a text.
func lists(b api.VoiceBook, text []int) [][]int {
	var all [][]int
	var now []int
	var next func(left []int)
	next = func(left []int) {
		if len(left) == 0 {
			all = append(all, slices.Clone(now))
			return
		}
		for i, p := range b.Pieces {
			if n := len(p.Words); n <= len(left) && slices.Equal(left[:n], p.Words) {
				now = append(now, i)
				next(left[n:])
				now = now[:len(now)-1]
			}
		}
	}
	next(text)
	return all
}

// howMany is how many lists of pieces say a text; there can be far too many to list them.
func howMany(b api.VoiceBook, text []int) int {
	counts := make([]int, len(text)+1) // by how many words are left
	counts[0] = 1
	for left := 1; left <= len(text); left++ {
		for _, p := range b.Pieces {
			if n := len(p.Words); n <= left && slices.Equal(text[len(text)-left:][:n], p.Words) {
				counts[left] += counts[left-n]
			}
		}
	}
	return counts[len(text)]
}

// before reports whether a list has fewer numbers than another one, or as many and comes first.
func before(a, b []int) bool {
	return len(a) < len(b) || len(a) == len(b) && slices.Compare(a, b) < 0
}

// best is the list before all others, nil if there is none.
func best(all [][]int) []int {
	var found []int
	for _, l := range all {
		if found == nil || before(l, found) {
			found = l
		}
	}
	return found
}

// members are the numbers of a set that is told by bits.
func members(set int) []int {
	var list []int
	for i := range 10 {
		if set>>i&1 == 1 {
			list = append(list, i)
		}
	}
	return list
}

// enough reports whether each text has a list of pieces of a set.
func enough(byText [][][]int, set []int) bool {
	for _, all := range byText {
		if !slices.ContainsFunc(all, func(l []int) bool { return isPart(l, set) }) {
			return false
		}
	}
	return true
}

// isPart reports whether all numbers of a list are among others.
func isPart(list, others []int) bool {
	return !slices.ContainsFunc(list, func(n int) bool { return !slices.Contains(others, n) })
}

// needed are the fewest pieces for texts, nil if there are none.
func needed(b api.VoiceBook, texts [][]int) []int {
	var byText [][][]int
	for _, t := range texts {
		byText = append(byText, lists(b, t))
	}
	var sets [][]int
	for set := range 1 << len(b.Pieces) {
		if l := members(set); enough(byText, l) {
			sets = append(sets, l)
		}
	}
	return best(sets)
}

// question is what is asked about plans.
type question struct {
	b         api.VoiceBook
	text      []int
	from, pip int
}

// isPlan reports whether a list is a plan, as the chapter says it.
func isPlan(q question, plan []api.VoiceStart) bool {
	end := 0
	for i, x := range plan {
		if !within(x.Piece, 0, len(q.b.Pieces)-1) {
			return false
		}
		p := q.b.Pieces[x.Piece]
		switch {
		case x.At < 0 || x.At%q.b.Discs[p.Disc] != p.Begin:
			return false
		case i == 0 && x.At < q.from:
			return false
		case i > 0 && !has(q.b.Pause, x.At-end):
			return false
		}
		end = x.At + p.Long
	}
	return slices.Equal(said(q.b, piecesOf(plan)), q.text) && has(q.b.Rest, q.pip-end)
}

// plans are all plans: of each list of pieces, with all times up to the pip.
func plans(q question) [][]api.VoiceStart {
	var all [][]api.VoiceStart
	for _, pieces := range lists(q.b, q.text) {
		var now []api.VoiceStart
		var next func(from int)
		next = func(from int) {
			if len(now) == len(pieces) {
				if isPlan(q, now) {
					all = append(all, slices.Clone(now))
				}
				return
			}
			for time := from; time <= q.pip; time++ {
				now = append(now, api.VoiceStart{Piece: pieces[len(now)], At: time})
				next(time + 1)
				now = now[:len(now)-1]
			}
		}
		next(0)
	}
	return all
}

// answer is what is told of plans: how many pieces one has at least, and when the first piece begins at the latest; both -1, if there is no plan.
type answer struct{ pieces, latest int }

var noPlan = answer{-1, -1}

// more is an answer, with such plans more.
func (a answer) more(pieces, latest int) answer {
	if a == noPlan {
		return answer{pieces, latest}
	}
	return answer{min(a.pieces, pieces), max(a.latest, latest)}
}

// listed is the answer by all plans.
func listed(q question) answer {
	a := noPlan
	for _, plan := range plans(q) {
		a = a.more(len(plan), plan[0].At)
	}
	return a
}

// marked is the answer by the marked times of each list.
func marked(q question) answer {
	a := noPlan
	for _, pieces := range lists(q.b, q.text) {
		if latest := latestOf(q, pieces); latest >= q.from {
			a = a.more(len(pieces), latest)
		}
	}
	return a
}

// latestOf is the latest time at which the first piece of a list can begin; -1, if there is none. Times are marked by how far they are behind the beginning.
func latestOf(q question, pieces []int) int {
	many := q.pip - q.from + 1
	good := make([]bool, many) // where the piece before can end
	for i := range good {
		good[i] = has(q.b.Rest, q.pip-q.from-i)
	}
	for k := len(pieces) - 1; ; k-- {
		p := q.b.Pieces[pieces[k]]
		upTo := make([]int, many+1) // how many times before each are such at which the piece can begin
		latest := -1
		for i := range many {
			upTo[i+1] = upTo[i]
			if end := i + p.Long; end < many && good[end] && (q.from+i)%q.b.Discs[p.Disc] == p.Begin {
				upTo[i+1]++
				latest = q.from + i
			}
		}
		if k == 0 {
			return latest
		}
		for i := range good {
			low, high := min(i+q.b.Pause.Low, many), min(i+q.b.Pause.High+1, many)
			good[i] = upTo[high] > upTo[low]
		}
	}
}

// drawnBook is a book that is drawn, of such sizes: how great a turn, a pause and a rest are at most, and how many words there are.
func drawnBook(r *rand.Rand, turn, pause, rest, words int) api.VoiceBook {
	var b api.VoiceBook
	for range 1 + r.Intn(4) {
		b.Discs = append(b.Discs, 1+r.Intn(turn))
	}
	for range 1 + r.Intn(10) {
		disc := r.Intn(len(b.Discs))
		p := piece(disc, r.Intn(b.Discs[disc]), 1+r.Intn(b.Discs[disc]))
		for range 1 + r.Intn(1+r.Intn(4)) {
			p.Words = append(p.Words, 40*r.Intn(words))
		}
		b.Pieces = append(b.Pieces, p)
	}
	b.Pause.Low = r.Intn(1 + r.Intn(pause+1))
	b.Pause.High = b.Pause.Low + r.Intn(pause+1-b.Pause.Low)
	b.Rest.Low = r.Intn(1 + r.Intn(rest+1))
	b.Rest.High = b.Rest.Low + r.Intn(rest+1-b.Rest.Low)
	return b
}

// drawnText is a text that some pieces say, or now and then any.
func drawnText(r *rand.Rand, b api.VoiceBook, most int) []int {
	var text []int
	for many := 1 + r.Intn(most); len(text) < many; {
		if r.Intn(15) == 0 {
			text = append(text, r.Intn(300))
		} else {
			text = append(text, b.Pieces[r.Intn(len(b.Pieces))].Words...)
		}
	}
	return text[:min(len(text), 8)]
}

// asked is a question about a drawn book, between whose times lies so much at most.
func asked(r *rand.Rand, b api.VoiceBook, words, wide int) question {
	q := question{b: b, text: drawnText(r, b, words), from: r.Intn(1 + []int{0, 50, 3000, 90000000}[r.Intn(4)])}
	q.pip = q.from + r.Intn(wide+1)
	return q
}

// tiny are questions whose plans can all be listed.
func tiny(count int) []question {
	r := rand.New(rand.NewSource(21))
	var list []question
	for len(list) < count {
		q := asked(r, drawnBook(r, 6, 5, 6, 2), 4, 24)
		q.from %= 60
		q.pip = q.from + r.Intn(25)
		if q.pip <= 28 && len(q.text) <= 4 && howMany(q.b, q.text) < 40 {
			list = append(list, q)
		}
	}
	return list
}

// many are drawn questions, always the same ones: with discs that turn fast or slowly, up to the limits.
func many(count int) []question {
	r := rand.New(rand.NewSource(22))
	var list []question
	for len(list) < count {
		turn, pause, rest, wide, words, long := 9, 8, 12, 80, 1+r.Intn(4), 8
		switch r.Intn(4) {
		case 0:
			turn, pause, rest, wide = 60, 60, 90, 600
		case 1:
			turn, pause, rest, wide = 500, 200, 500, 6100
		case 2: // much says the same, and discs turn slowly
			turn, pause, rest, wide, words, long = 40, 20, 30, 200, 1, 3
		}
		if q := asked(r, drawnBook(r, turn, pause, rest, words), long, wide); howMany(q.b, q.text) < 60 {
			list = append(list, q)
		}
	}
	return list
}

// hour is a book that says the readings of a calendar: hours, minutes and seconds, some of them together.
func hour(pause, rest api.Span) api.VoiceBook {
	return api.VoiceBook{Discs: []int{70, 100, 130}, Pause: pause, Rest: rest, Pieces: []api.VoicePiece{
		piece(0, 0, 50, 0), piece(0, 20, 45, 1), piece(1, 10, 80, 100), piece(1, 90, 70, 101), piece(1, 30, 99, 101, 200), piece(2, 0, 60, 200), piece(2, 64, 60, 205), piece(2, 100, 70, 206), piece(2, 1, 130, 0, 100), piece(0, 69, 70, 203),
	}}
}

// readings are all readings of a calendar, in their order.
func readings(c api.DialCalendar) []api.DialReading {
	var list []api.DialReading
	for day := range c.Days {
		for minute := range c.Hours * c.Minutes {
			seconds := c.Seconds
			for _, d := range c.Decrees {
				switch last := d.Day == day && minute == c.Hours*c.Minutes-1; {
				case last && d.Plus:
					seconds++
				case last:
					seconds--
				}
			}
			for second := range seconds {
				list = append(list, api.DialReading{Day: day, Hour: minute / c.Minutes, Minute: minute % c.Minutes, Second: second})
			}
		}
	}
	return list
}

// announced is what Day tells: by the listed readings, and the marked times.
func announced(b api.VoiceBook, c api.DialCalendar, tick, each, many int) []int {
	var list []int
	all := readings(c)
	from := tick
	for next := tick + 1; next < len(all) && len(list) < many; next++ {
		if r := all[next]; r.Second%each == 0 {
			q := question{b, []int{r.Hour, 100 + r.Minute, 200 + r.Second}, 100 * from, 100 * next}
			list = append(list, marked(q).pieces)
			from = next
		}
	}
	return list
}

// calendars are some for hour: without decrees, with a second put in, and left out.
func calendars() []api.DialCalendar {
	c := api.DialCalendar{Hours: 2, Minutes: 2, Seconds: 6, Days: 3}
	plus, minus, both := c, c, c
	plus.Decrees = []api.DialDecree{{Day: 0, Plus: true}}
	minus.Decrees = []api.DialDecree{{Day: 1}}
	both.Decrees = []api.DialDecree{{Day: 0}, {Day: 1, Plus: true}, {Day: 2, Plus: true}}
	return []api.DialCalendar{c, plus, minus, both}
}

// good returns a result that has no error.
func good[T any](t *testing.T, what string) func(T, api.Errno) T {
	t.Helper()
	return func(x T, e api.Errno) T {
		t.Helper()
		if e != api.OK {
			t.Fatalf("%s: error %d", what, e)
		}
		return x
	}
}
