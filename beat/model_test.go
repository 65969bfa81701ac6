package beat_test

import (
	"math/rand"
	"slices"
	"testing"

	"remontoir/api"
)

// Two models. In the first one all truths of a small cellar are listed, as the chapter defines them, and every answer is looked up in the list. The second one keeps for all pairs of offsets how far one can be ahead of the other one, and narrows that over every third offset.

func to(low, high int) api.Span { return api.Span{Low: low, High: high} }

func opened(clock, hour, low, high int) api.BeatOpen {
	return api.BeatOpen{Clock: clock, Hour: hour, Step: to(low, high)}
}

func pair(hour, one, other, low, high int) api.BeatPair {
	return api.BeatPair{Hour: hour, One: one, Other: other, Read: to(low, high)}
}

// rates is a cellar of clocks that are neither opened nor compared.
func rates(hours int, each ...api.Span) api.BeatCellar {
	return api.BeatCellar{Hours: hours, Rates: each}
}

// with is a cellar with comparisons more; withOpens one with openings more. Neither shares memory with it.
func with(c api.BeatCellar, pairs ...api.BeatPair) api.BeatCellar {
	c = copied(c)
	c.Pairs = append(c.Pairs, pairs...)
	return c
}

func withOpens(c api.BeatCellar, opens ...api.BeatOpen) api.BeatCellar {
	c = copied(c)
	c.Opens = append(c.Opens, opens...)
	return c
}

// copied is a copy of a cellar that shares nothing with it.
func copied(c api.BeatCellar) api.BeatCellar {
	c.Rates, c.Opens, c.Pairs = slices.Clone(c.Rates), slices.Clone(c.Opens), slices.Clone(c.Pairs)
	return c
}

// without is a cellar from which all comparisons of some clocks are left out.
func without(c api.BeatCellar, clocks []int) api.BeatCellar {
	c = copied(c)
	c.Pairs = slices.DeleteFunc(c.Pairs, func(p api.BeatPair) bool {
		return slices.Contains(clocks, p.One) || slices.Contains(clocks, p.Other)
	})
	return c
}

// cellar is that of the chapter's examples; torn and sure are the comparisons that it tells of, too.
func cellar() api.BeatCellar {
	c := withOpens(rates(3, to(-2, 3), to(0, 1), to(-10, 10)), opened(2, 1, -50, 50))
	return with(c, pair(0, 0, -1, 100, 104), pair(1, 0, 1, 40, 44), pair(3, 1, -1, 60, 61), pair(3, 2, 1, 5, 5))
}

var torn, sure = pair(1, 1, -1, 80, 90), pair(3, 0, -1, 100, 100)

// small are cellars whose truths are few: each clock begins near a number.
func small() map[int][]api.BeatCellar {
	two := rates(2, to(-1, 1), to(0, 2))
	near := with(two, pair(0, 0, -1, -1, 1), pair(0, 1, -1, -2, 0))
	return map[int][]api.BeatCellar{
		0: {
			with(rates(1, to(0, 0)), pair(0, 0, -1, 0, 0)), with(rates(3, to(-1, 2)), pair(0, 0, -1, -1, 1)),
			with(rates(3, to(-1, 2)), pair(0, 0, -1, -1, 1), pair(3, 0, -1, 5, 6), pair(1, 0, -1, -9, 9)),
			near, with(near, pair(2, 0, 1, -1, 0)), with(near, pair(2, 1, 0, -1, 0)), with(near, pair(1, 0, 1, 1, 2), pair(2, 1, 0, 1, 3), pair(2, 1, -1, 1, 1)),
			withOpens(near, opened(0, 1, -3, 2)), withOpens(near, opened(0, 0, 1, 1), opened(1, 1, -4, -3)),
			withOpens(near, opened(1, 0, 0, 1), opened(1, 0, -2, 0)), withOpens(with(near, pair(2, 0, 1, 3, 3)), opened(0, 1, -3, 2)),
			with(rates(1, to(-1, 0), to(1, 2), to(-1, 1)), pair(0, 0, -1, 0, 1), pair(0, 1, -1, -1, 1), pair(0, 2, -1, 0, 2), pair(1, 0, 1, -3, -1), pair(1, 1, 2, -2, 0), pair(0, 2, 0, 0, 1)),
			with(near, pair(2, 0, 1, 5, 9)), with(near, pair(0, 0, 1, 0, 0), pair(2, 0, 1, -4, 2)),
		},
		99998:  {with(two, pair(0, 0, -1, 99997, 200000), pair(0, 1, -1, 99996, 99999), pair(2, 0, 1, -3, 0)), withOpens(with(rates(2, to(1, 1)), pair(0, 0, -1, 99997, 99999)), opened(0, 1, -1, 3))},
		-99998: {with(two, pair(0, 0, -1, -200000, -99998), pair(0, 1, -1, -99999, -99998), pair(1, 1, 0, -1, 1)), with(rates(3, to(-2, 0)), pair(0, 0, -1, -99999, -99997), pair(1, 0, -1, -200000, 200000))},
	}
}

// growth is between what lies how much a clock gains in an hour.
func growth(c api.BeatCellar, clock, hour int) api.Span {
	s := c.Rates[clock]
	for _, o := range c.Opens {
		if o.Clock == clock && o.Hour == hour {
			s.Low += o.Step.Low
			s.High += o.Step.High
		}
	}
	return s
}

// truths are all truths of a cellar in which no clock is farther than 4 from a number at first.
func truths(c api.BeatCellar, near int) [][][]int {
	rows := make([][]int, len(c.Rates))
	for i := range rows {
		rows[i] = make([]int, c.Hours+1)
	}
	var list [][][]int
	var fill func(clock, hour int)
	try := func(clock, hour int, s api.Span) {
		for n := max(s.Low, -100000); n <= min(s.High, 100000); n++ {
			rows[clock][hour] = n
			if agrees(c, rows, clock, hour) {
				fill(clock, hour+1)
			}
		}
	}
	fill = func(clock, hour int) {
		switch {
		case clock == len(rows):
			list = append(list, rowsCopied(rows))
		case hour > c.Hours:
			fill(clock+1, 0)
		case hour == 0:
			try(clock, hour, to(near-4, near+4))
		default:
			g := growth(c, clock, hour-1)
			try(clock, hour, to(rows[clock][hour-1]+g.Low, rows[clock][hour-1]+g.High))
		}
	}
	fill(0, 0)
	return list
}

// agrees reports whether the offset of a clock at an hour agrees with the comparisons of this clock with those before it.
func agrees(c api.BeatCellar, rows [][]int, clock, hour int) bool {
	for _, p := range c.Pairs {
		if p.Hour != hour || max(p.One, p.Other) != clock {
			continue
		}
		n := rows[p.One][hour]
		if p.Other >= 0 {
			n -= rows[p.Other][hour]
		}
		if n < p.Read.Low || n > p.Read.High {
			return false
		}
	}
	return true
}

func rowsCopied(rows [][]int) [][]int {
	var list [][]int
	for _, r := range rows {
		list = append(list, slices.Clone(r))
	}
	return list
}

// between is between what the numbers lie that are told of all truths.
func between(list [][][]int, told func([][]int) int) api.Span {
	s := to(told(list[0]), told(list[0]))
	for _, rows := range list {
		s = to(min(s.Low, told(rows)), max(s.High, told(rows)))
	}
	return s
}

// table is how far each offset can be ahead of each other one; the first one is true time.
type table [][]int

// index is the number of an offset in the table.
func index(c api.BeatCellar, clock, hour int) int {
	if clock < 0 {
		return 0
	}
	return 1 + clock*(c.Hours+1) + hour
}

func (t table) bound(one, other int, s api.Span) {
	t[one][other] = min(t[one][other], s.High)
	t[other][one] = min(t[other][one], -s.Low)
}

func (t table) apart(one, other int) api.Span { return to(-t[other][one], t[one][other]) }

// tabled returns the table of a cellar, and whether it can be true.
func tabled(c api.BeatCellar) (table, bool) {
	many := index(c, len(c.Rates), 0)
	t := make(table, many)
	for i := range t {
		t[i] = slices.Repeat([]int{1 << 30}, many)
		t[i][i] = 0
	}
	for clock := range c.Rates {
		for hour := range c.Hours + 1 {
			t.bound(index(c, clock, hour), 0, to(-100000, 100000))
			if hour > 0 {
				t.bound(index(c, clock, hour), index(c, clock, hour-1), growth(c, clock, hour-1))
			}
		}
	}
	for _, p := range c.Pairs {
		t.bound(index(c, p.One, p.Hour), index(c, p.Other, p.Hour), p.Read)
	}
	for between := range t {
		for one := range t {
			for other := range t {
				t[one][other] = min(t[one][other], t[one][between]+t[between][other])
			}
			if t[one][one] < 0 {
				return nil, false
			}
		}
	}
	return t, true
}

// sets are all lists of some of so many clocks: the shorter ones first, and those of a length in their order.
func sets(many int) [][]int {
	var list [][]int
	for bits := range 1 << many {
		var set []int
		for clock := range many {
			if bits>>clock&1 == 1 {
				set = append(set, clock)
			}
		}
		list = append(list, set)
	}
	slices.SortFunc(list, func(a, b []int) int {
		if len(a) != len(b) {
			return len(a) - len(b)
		}
		return slices.Compare(a, b)
	})
	return list
}

// fewest are the fewest clocks without which a cellar can be true.
func fewest(c api.BeatCellar) ([]int, bool) {
	for _, set := range sets(len(c.Rates)) {
		if _, can := tabled(without(c, set)); can {
			return set, true
		}
	}
	return nil, false
}

// around is a span that holds a number, not far from it.
func around(r *rand.Rand, n, wide, most int) api.Span {
	return to(max(n-r.Intn(wide+1), -most), min(n+r.Intn(wide+1), most))
}

// drawn is a cellar that is drawn, and a truth of it, from which all comes that it tells. Some clocks are near the limits.
func drawn(r *rand.Rand) (api.BeatCellar, [][]int) {
	c := api.BeatCellar{Hours: 1 + r.Intn(api.BeatHours)}
	wide := []int{0, 2, 30, 3000}[r.Intn(4)]
	var truth [][]int
	for clock := range 1 + r.Intn(api.BeatClocks) {
		rate := r.Intn(21) - 10
		c.Rates = append(c.Rates, around(r, rate, min(wide, 20), api.BeatRate))
		row := []int{[]int{0, 0, api.BeatMost, -api.BeatMost}[r.Intn(4)] + r.Intn(2001) - 1000}
		for hour := range c.Hours {
			step := 0
			if len(c.Opens) < api.BeatOpens && r.Intn(6) == 0 {
				step = r.Intn(101) - 50
				c.Opens = append(c.Opens, api.BeatOpen{Clock: clock, Hour: hour, Step: around(r, step, wide, api.BeatMost)})
			}
			row = append(row, row[hour]+rate+step)
		}
		truth = append(truth, clipped(row))
	}
	for range r.Intn(api.BeatPairs + 1) {
		if p, ok := told(r, c, truth, wide); ok {
			c.Pairs = append(c.Pairs, p)
		}
	}
	return c, truth
}

// clipped is a row that is moved as far as it has to be to lie between the limits.
func clipped(row []int) []int {
	by := min(0, api.BeatMost-slices.Max(row)) + max(0, -api.BeatMost-slices.Min(row))
	for hour := range row {
		row[hour] += by
	}
	return row
}

// told is a comparison that is drawn, and which a truth agrees with.
func told(r *rand.Rand, c api.BeatCellar, truth [][]int, wide int) (api.BeatPair, bool) {
	p := api.BeatPair{Hour: r.Intn(c.Hours + 1), One: r.Intn(len(c.Rates)), Other: r.Intn(len(c.Rates)+1) - 1}
	if p.One == p.Other {
		return api.BeatPair{}, false
	}
	n := truth[p.One][p.Hour]
	if p.Other >= 0 {
		n -= truth[p.Other][p.Hour]
	}
	p.Read = around(r, n, wide, 2*api.BeatMost)
	return p, true
}

// many are cellars that are drawn, always the same ones; each second one has comparisons that were not told by its truth.
func many(count int) []api.BeatCellar {
	r := rand.New(rand.NewSource(1))
	var list []api.BeatCellar
	for len(list) < count {
		c, truth := drawn(r)
		list = append(list, c)
		for range 1 + r.Intn(3) {
			p, ok := told(r, c, truth, 3)
			if ok && len(c.Pairs) < api.BeatPairs {
				by := r.Intn(61) - 30
				p.Read = to(p.Read.Low+by, p.Read.High+by)
				c = with(c, p)
			}
		}
		list = append(list, c)
	}
	return list
}

// good returns a result that comes without an error.
func good[T any](t *testing.T, what string) func(T, api.Errno) T {
	t.Helper()
	return func(x T, e api.Errno) T {
		t.Helper()
		if e != api.OK {
			t.Fatalf("%s: error %d", what, e)
		}
		return x
	}
}
