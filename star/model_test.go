package star_test

import (
	"math/rand"
	"slices"
	"testing"

	"remontoir/api"
	"remontoir/star"
)

// Two models. In the first one all truths of a small book are listed, as the chapter defines them, and every answer is looked up in the list. The second one keeps for all pairs of numbers of a truth how far one can be above the other one, and narrows that over every third number.

func to(low, high int) api.Span { return api.Span{Low: low, High: high} }

func seen(night, who, read, wrong int) api.StarLook {
	return api.StarLook{Night: night, Kind: api.StarSeen, Who: who, Read: read, Err: wrong}
}

func signal(night, who, read, wrong int) api.StarLook {
	return api.StarLook{Night: night, Kind: api.StarSignal, Who: who, Read: read, Err: wrong}
}

// nights is a book without observers, stations and looks.
func nights(many int, begin, rate api.Span) api.StarBook {
	return api.StarBook{Nights: many, Begin: begin, Rate: rate}
}

// with is a book with looks more, that shares no memory with it.
func with(b api.StarBook, looks ...api.StarLook) api.StarBook {
	b = copied(b)
	b.Looks = append(b.Looks, looks...)
	return b
}

// among is a book with observers and stations.
func among(b api.StarBook, people, paths []api.Span) api.StarBook {
	b = copied(b)
	b.People, b.Paths = people, paths
	return b
}

// copied is a copy of a book that shares nothing with it.
func copied(b api.StarBook) api.StarBook {
	b.People, b.Paths, b.Looks = slices.Clone(b.People), slices.Clone(b.Paths), slices.Clone(b.Looks)
	return b
}

// without is a book from which some looks are left out.
func without(b api.StarBook, left ...int) api.StarBook {
	looks := b.Looks
	b.Looks = nil
	b = copied(b)
	for i, l := range looks {
		if !slices.Contains(left, i) {
			b.Looks = append(b.Looks, l)
		}
	}
	return b
}

// book is that of the chapter's examples; torn is the same one, if the look 3 read 200; spareLook is the look that it tells of, too.
func book() api.StarBook {
	b := among(nights(3, to(0, 100), to(-10, 20)), []api.Span{to(-50, 50), to(-20, 20)}, []api.Span{to(30, 60)})
	return with(b, seen(0, 0, 40, 5), seen(0, 1, 60, 10), signal(1, 0, 20, 5), seen(2, 0, 70, 5))
}

func torn() api.StarBook {
	b := book()
	b.Looks[3].Read = 200
	return b
}

var spareLook = seen(0, 1, 60, 30)

// small are books whose truths are few.
func small() []api.StarBook {
	two := among(nights(2, to(-2, 2), to(-1, 2)), []api.Span{to(-1, 2), to(0, 1)}, []api.Span{to(0, 3)})
	three := among(nights(3, to(0, 3), to(-2, -1)), []api.Span{to(-2, 0)}, []api.Span{to(1, 2), to(0, 2)})
	far := among(nights(4, to(19998, 20000), to(999, 1000)), []api.Span{to(1999, 2000)}, []api.Span{to(4999, 5000)})
	deep := among(nights(4, to(-20000, -19998), to(-1000, -999)), []api.Span{to(-2000, -1999)}, []api.Span{to(4998, 5000)})
	return []api.StarBook{
		nights(1, to(0, 0), to(0, 0)), nights(1, to(-3, 4), to(1, 2)), nights(4, to(5, 7), to(-1, 2)), nights(8, to(-1, 0), to(0, 1)),
		two, with(two, seen(0, 0, 1, 1)), with(two, seen(0, 0, 1, 0), seen(1, 0, 3, 0)), with(two, seen(0, 0, 4, 0)), with(two, seen(0, 0, 5, 0)), with(two, seen(0, 0, 5, 1)),
		with(two, seen(0, 0, -3, 0), signal(0, 0, -2, 0)), with(two, seen(0, 0, 0, 1), seen(0, 1, 2, 1), signal(1, 0, -3, 1)), with(two, signal(0, 0, 2, 3), signal(1, 0, -2, 0)),
		with(two, seen(0, 0, 0, 1), seen(0, 0, 0, 1), seen(0, 0, 0, 2), seen(1, 1, 0, 2)), with(two, seen(0, 0, 0, 0), seen(0, 0, 1, 0), seen(1, 1, 4, 1), seen(1, 1, 0, 0)),
		with(two, seen(0, 0, 3, 0), signal(0, 0, 3, 0), seen(1, 1, 5, 0)), with(two, seen(0, 0, 1, 1), seen(1, 0, 2, 1), seen(0, 1, 0, 1), seen(1, 1, 1, 1), signal(0, 0, -2, 1), signal(1, 0, -1, 1)),
		with(two, signal(0, 0, 0, 0), signal(1, 0, 3, 0), seen(0, 0, 9, 9)), with(two, seen(1, 0, -4, 0)), with(two, seen(0, 1, 30000, 2000), seen(0, 0, -30000, 2000)),
		three, with(three, seen(2, 0, 0, 0)), with(three, seen(2, 0, 1, 0), signal(0, 1, 1, 0), signal(0, 0, 2, 0)), with(three, seen(0, 0, 1, 0), seen(1, 0, 0, 0), seen(2, 0, -1, 0)), with(three, seen(0, 0, 1, 0), seen(1, 0, 1, 0), seen(2, 0, -1, 0)),
		with(three, signal(0, 0, 2, 1), signal(0, 1, 1, 1), signal(2, 0, -4, 0)), with(three, signal(1, 0, 0, 0), signal(1, 1, 2, 0), signal(1, 0, -1, 0)), with(three, signal(1, 0, 0, 1), signal(1, 1, 1, 1), seen(1, 0, 0, 1), seen(1, 0, -2, 0)),
		far, with(far, seen(3, 0, 25000, 0)), with(far, seen(3, 0, 24998, 1), signal(0, 0, 15000, 0)), with(far, seen(3, 0, 24999, 5), signal(3, 0, 18000, 1), signal(0, 0, 14999, 2000)),
		deep, with(deep, seen(3, 0, -25000, 0)), with(deep, seen(3, 0, -24998, 1), signal(3, 0, -28000, 2)), with(deep, signal(3, 0, -28000, 0), seen(0, 0, -22000, 1)),
	}
}

// truths are all truths of a book.
func truths(b api.StarBook) []api.StarTruth {
	var list []api.StarTruth
	var now api.StarTruth
	fill := func(s api.Span, of *[]int, then func()) {
		for n := s.Low; n <= s.High; n++ {
			*of = append(*of, n)
			then()
			*of = (*of)[:len(*of)-1]
		}
	}
	var next func()
	next = func() {
		switch {
		case len(now.Offsets) == 0:
			fill(b.Begin, &now.Offsets, next)
		case len(now.Offsets) < b.Nights:
			last := now.Offsets[len(now.Offsets)-1]
			fill(to(last+b.Rate.Low, last+b.Rate.High), &now.Offsets, next)
		case len(now.People) < len(b.People):
			fill(b.People[len(now.People)], &now.People, next)
		case len(now.Paths) < len(b.Paths):
			fill(b.Paths[len(now.Paths)], &now.Paths, next)
		case agrees(b, now):
			list = append(list, truthCopied(now))
		}
	}
	next()
	return list
}

// agrees reports whether the numbers of a truth agree with all looks.
func agrees(b api.StarBook, t api.StarTruth) bool {
	return !slices.ContainsFunc(b.Looks, func(l api.StarLook) bool {
		n := t.Offsets[l.Night] - l.Read
		if l.Kind == api.StarSeen {
			n += t.People[l.Who]
		} else {
			n -= t.Paths[l.Who]
		}
		return n < -l.Err || n > l.Err
	})
}

func truthCopied(t api.StarTruth) api.StarTruth {
	return api.StarTruth{Offsets: slices.Clone(t.Offsets), People: slices.Clone(t.People), Paths: slices.Clone(t.Paths)}
}

func sameTruth(a, b api.StarTruth) bool {
	return slices.Equal(a.Offsets, b.Offsets) && slices.Equal(a.People, b.People) && slices.Equal(a.Paths, b.Paths)
}

// between is between what the numbers lie that are told of each of listed truths.
func between(list []api.StarTruth, told func(api.StarTruth) int) api.Span {
	s := to(told(list[0]), told(list[0]))
	for _, t := range list {
		s = to(min(s.Low, told(t)), max(s.High, told(t)))
	}
	return s
}

// listed are the spans of all offsets, personal errors and delays, in this order, of listed truths.
func listed(b api.StarBook, list []api.StarTruth) []api.Span {
	var all []api.Span
	for i := range b.Nights {
		all = append(all, between(list, func(t api.StarTruth) int { return t.Offsets[i] }))
	}
	for i := range b.People {
		all = append(all, between(list, func(t api.StarTruth) int { return t.People[i] }))
	}
	for i := range b.Paths {
		all = append(all, between(list, func(t api.StarTruth) int { return t.Paths[i] }))
	}
	return all
}

// table is how far each number of a truth can be above each other one. The first one is 0; then come the offsets, the personal errors with the other sign, and the delays.
type table [][]int

// numbered is the place of a night in the table.
func numbered(night int) int { return 1 + night }

// whose is the place of an observer, or of a station.
func whose(b api.StarBook, kind, who int) int {
	if kind == api.StarSeen {
		return 1 + b.Nights + who
	}
	return 1 + b.Nights + len(b.People) + who
}

func (t table) bound(one, other int, s api.Span) {
	t[one][other] = min(t[one][other], s.High)
	t[other][one] = min(t[other][one], -s.Low)
}

func (t table) apart(one, other int) api.Span { return to(-t[other][one], t[one][other]) }

// tabled returns the table of a book, and whether it can be true.
func tabled(b api.StarBook) (table, bool) {
	many := 1 + b.Nights + len(b.People) + len(b.Paths)
	t := make(table, many)
	for i := range t {
		t[i] = slices.Repeat([]int{1 << 30}, many)
		t[i][i] = 0
	}
	t.bound(numbered(0), 0, b.Begin)
	for night := 1; night < b.Nights; night++ {
		t.bound(numbered(night), numbered(night-1), b.Rate)
	}
	for i, s := range b.People {
		t.bound(whose(b, api.StarSeen, i), 0, to(-s.High, -s.Low))
	}
	for i, s := range b.Paths {
		t.bound(whose(b, api.StarSignal, i), 0, s)
	}
	for _, l := range b.Looks {
		t.bound(numbered(l.Night), whose(b, l.Kind, l.Who), to(l.Read-l.Err, l.Read+l.Err))
	}
	for third := range t {
		for one := range t {
			for other := range t {
				t[one][other] = min(t[one][other], t[one][third]+t[third][other])
			}
			if t[one][one] < 0 {
				return nil, false
			}
		}
	}
	return t, true
}

// spans are those of all offsets, personal errors and delays, in this order, of a table.
func (t table) spans(b api.StarBook) []api.Span {
	var all []api.Span
	for i := range b.Nights {
		all = append(all, t.apart(numbered(i), 0))
	}
	for i := range b.People {
		all = append(all, t.apart(0, whose(b, api.StarSeen, i)))
	}
	for i := range b.Paths {
		all = append(all, t.apart(whose(b, api.StarSignal, i), 0))
	}
	return all
}

// sets are all lists of some of so many looks: the shorter ones first, and those of a length in their order.
func sets(many int) [][]int {
	var list [][]int
	for bits := range 1 << many {
		var set []int
		for i := range many {
			if bits>>i&1 == 1 {
				set = append(set, i)
			}
		}
		list = append(list, set)
	}
	slices.SortFunc(list, func(a, b []int) int {
		if len(a) != len(b) {
			return len(a) - len(b)
		}
		return slices.Compare(a, b)
	})
	return list
}

// fewest are the fewest looks without which a book can be true.
func fewest(b api.StarBook, can func(api.StarBook) bool) []int {
	all := sets(len(b.Looks))
	return all[slices.IndexFunc(all, func(set []int) bool { return can(without(b, set...)) })]
}

func canByTable(b api.StarBook) bool {
	_, can := tabled(b)
	return can
}

// idle are the looks of a book that can be true, each of which changes no span.
func idle(b api.StarBook, spansOf func(api.StarBook) []api.Span) []int {
	var list []int
	for i := range b.Looks {
		if slices.Equal(spansOf(without(b, i)), spansOf(b)) {
			list = append(list, i)
		}
	}
	return list
}

// widest is the first night of the widest span of several, and how wide it is.
func widest(offsets []api.Span) (night, wide int) {
	for i, s := range offsets {
		if s.High-s.Low > wide {
			night, wide = i, s.High-s.Low
		}
	}
	return night, wide
}

// around is a span from low to high that holds a number, not far from it.
func around(r *rand.Rand, n, wide, low, high int) api.Span {
	return to(max(n-r.Intn(wide+1), low), min(n+r.Intn(wide+1), high))
}

// drawn is a book that is drawn, and a truth of it, from which all comes that it tells. Some are near the limits.
func drawn(r *rand.Rand) (api.StarBook, api.StarTruth) {
	wide := []int{0, 3, 40, 2000}[r.Intn(4)]
	near := []int{0, 0, 19900, -19900}[r.Intn(4)]
	rate := r.Intn(1901) - 950
	if near != 0 {
		rate = []int{r.Intn(51), 950}[r.Intn(2)] * near / 19900
	}
	first := near + r.Intn(201) - 100
	b := api.StarBook{Nights: 1 + r.Intn(api.StarNights), Begin: around(r, first, wide, -api.StarOffset, api.StarOffset), Rate: around(r, rate, min(wide, 100), -api.StarRate, api.StarRate)}
	t := api.StarTruth{Offsets: []int{first}}
	for night := range b.Nights - 1 {
		t.Offsets = append(t.Offsets, t.Offsets[night]+b.Rate.Low+r.Intn(b.Rate.High-b.Rate.Low+1))
	}
	for range r.Intn(api.StarPeople + 1) {
		n := r.Intn(2*api.StarPerson+1) - api.StarPerson
		t.People, b.People = append(t.People, n), append(b.People, around(r, n, wide, -api.StarPerson, api.StarPerson))
	}
	for range r.Intn(api.StarPaths + 1) {
		n := r.Intn(api.StarDelay + 1)
		t.Paths, b.Paths = append(t.Paths, n), append(b.Paths, around(r, n, wide, 0, api.StarDelay))
	}
	for range r.Intn(api.StarLooks + 1) {
		if l, ok := told(r, b, t, min(wide, 50)); ok {
			b.Looks = append(b.Looks, l)
		}
	}
	return b, t
}

// told is a look that is drawn, and which a truth agrees with.
func told(r *rand.Rand, b api.StarBook, t api.StarTruth, wide int) (api.StarLook, bool) {
	l := api.StarLook{Night: r.Intn(b.Nights), Kind: r.Intn(2), Err: r.Intn(wide + 1)}
	of, sign := t.People, 1
	if l.Kind == api.StarSignal {
		of, sign = t.Paths, -1
	}
	if len(of) == 0 {
		return api.StarLook{}, false
	}
	l.Who = r.Intn(len(of))
	l.Read = t.Offsets[l.Night] + sign*of[l.Who] + r.Intn(2*l.Err+1) - l.Err
	return l, l.Read >= -api.StarReading && l.Read <= api.StarReading
}

// sample is a book with a truth of it.
type sample struct {
	b     api.StarBook
	truth api.StarTruth
}

// samples are drawn books, always the same ones.
func samples(count int) []sample {
	r := rand.New(rand.NewSource(2))
	var list []sample
	for range count {
		b, t := drawn(r)
		list = append(list, sample{b, t})
	}
	return list
}

// many are books that are drawn, always the same ones; in each second one some looks were not told by its truth.
func many(count int) []api.StarBook {
	r := rand.New(rand.NewSource(1))
	var list []api.StarBook
	for len(list) < count {
		b, t := drawn(r)
		list = append(list, b)
		b = copied(b)
		for range 1 + r.Intn(4) {
			l, ok := told(r, b, t, 3)
			if ok && len(b.Looks) < api.StarLooks {
				l.Read = max(min(l.Read+r.Intn(401)-200, api.StarReading), -api.StarReading)
				b.Looks = append(b.Looks, l)
			}
		}
		r.Shuffle(len(b.Looks), func(i, j int) { b.Looks[i], b.Looks[j] = b.Looks[j], b.Looks[i] })
		list = append(list, b)
	}
	return list
}

// good returns a result that comes without an error.
func good[T any](t *testing.T, what string) func(T, api.Errno) T {
	t.Helper()
	return func(x T, e api.Errno) T {
		t.Helper()
		if e != api.OK {
			t.Fatalf("%s: error %d", what, e)
		}
		return x
	}
}

// spans are those that are told of all offsets, personal errors and delays, in this order.
func spans(t *testing.T, b api.StarBook) []api.Span {
	t.Helper()
	var all []api.Span
	for i := range b.Nights {
		all = append(all, good[api.Span](t, "Offset")(star.Offset(b, i)))
	}
	for i := range b.People {
		all = append(all, good[api.Span](t, "Person")(star.Person(b, i)))
	}
	for i := range b.Paths {
		all = append(all, good[api.Span](t, "Path")(star.Path(b, i)))
	}
	return all
}

// apart is what is told of two nights.
func apart(t *testing.T, b api.StarBook, first, second int) api.Span {
	t.Helper()
	return good[api.Span](t, "Between")(star.Between(b, first, second))
}

// all are the spans of a book, and those between any two nights.
func all(t *testing.T, b api.StarBook) []api.Span {
	t.Helper()
	list := spans(t, b)
	for first := range b.Nights {
		for second := range b.Nights {
			list = append(list, apart(t, b, first, second))
		}
	}
	return list
}
