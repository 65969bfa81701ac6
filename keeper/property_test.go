package keeper_test

import (
	"fmt"
	"math/rand"
	"slices"
	"strings"
	"testing"

	"remontoir/api"
	"remontoir/caller"
	"remontoir/dial"
	"remontoir/keeper"
	"remontoir/line"
	"remontoir/slave"
	"remontoir/star"
	"remontoir/voice"
)

// step is a line that was done, what it was answered, and what the desk had before and then.
type step struct {
	line, said   string
	e            api.Errno
	before, then model
}

// play plays drawn lines with a new desk, and looks at each step.
func (r drawer) play(t *testing.T, lines int, see func(d *keeper.Desk, x step)) *keeper.Desk {
	t.Helper()
	d, m := made(t, r.s), newModel(r.s)
	for range lines {
		x := step{line: r.anyLine(d.Tick()), before: *m}
		x.before.got = slices.Clone(m.got)
		want, e := m.said(x.line)
		x.said, x.e = d.Do(x.line)
		x.then = *m
		if x.said != want || x.e != e {
			t.Fatalf("%q behind %q: %q, %d instead of %q, %d", x.line, d.Journal(), x.said, x.e, want, e)
		}
		if see != nil {
			see(d, x)
		}
	}
	return d
}

// plays plays drawn lines in all setups, several times.
func plays(t *testing.T, times, lines int, see func(r drawer, d *keeper.Desk, x step)) {
	t.Helper()
	for i, s := range setups() {
		for n := range times {
			r := newDrawer(int64(100*i+n), s)
			r.play(t, lines, func(d *keeper.Desk, x step) { see(r, d, x) })
		}
	}
}

// P11.2, P11.3: lines of all kinds do and answer what the tables say, and have all errors that these name.
func TestManyLines(t *testing.T) {
	many := map[string]int{}
	plays(t, 30, 300, func(_ drawer, d *keeper.Desk, x step) {
		if all(d) != x.then.all() {
			t.Fatalf("%q: %s instead of %s", x.line, all(d), x.then.all())
		}
		r, _, _, _ := rowOf(x.line)
		many[fmt.Sprint(r.word, " ", x.e)]++
	})
	wanted := map[string][]api.Errno{"": {api.ErrKeeperLine}}
	for e, words := range map[api.Errno]string{
		api.OK:               "tick star signal send home look call hour time local when next say sooner offset person path shown lost set served fewest got house",
		api.ErrKeeperPast:    "tick",
		api.ErrKeeperUnknown: "star signal look call local when sooner person path shown lost got",
		api.ErrRange:         "star signal send home look call hour offset set served",
		api.ErrFull:          "star signal send home look call",
		api.ErrKeeperFalse:   "star signal look",
		api.ErrNone:          "next say sooner",
	} {
		for _, word := range strings.Fields(words) {
			wanted[word] = append(wanted[word], e)
		}
	}
	for word, errors := range wanted {
		for _, e := range errors {
			if many[fmt.Sprint(word, " ", e)] < 10 {
				t.Errorf("%q had the error %d %d times: too few to tell something", word, e, many[fmt.Sprint(word, " ", e)])
			}
		}
	}
}

// P11.6: a desk whose file is opened is the same, has the same file, and goes on just so.
func TestTheYear(t *testing.T) {
	for i, s := range setups() {
		for n := range 15 {
			r := newDrawer(int64(1000*i+n), s)
			d := r.play(t, 30+10*n, nil)
			other := opened(t, copyOf(s), d.File())
			if all(other) != all(d) {
				t.Fatalf("Open: %s instead of %s", all(other), all(d))
			}
			for range 60 {
				l := r.anyLine(d.Tick())
				said, e := d.Do(l)
				again, f := other.Do(l)
				if again != said || f != e || all(other) != all(d) {
					t.Fatalf("%q: %q, %d and %q, %d: %s instead of %s", l, again, f, said, e, all(other), all(d))
				}
			}
		}
	}
}

// P11.6: each beginning of a journal is a file, of the desk as it was then.
func TestBeginnings(t *testing.T) {
	plays(t, 2, 60, func(r drawer, d *keeper.Desk, x step) {
		if other := opened(t, r.s, d.File()); all(other) != x.then.all() {
			t.Fatalf("Open: %s instead of %s", all(other), x.then.all())
		}
	})
}

// opening is what Open should return of a file of these lines.
func opening(s api.KeeperSetup, lines []string) (int, api.Errno) {
	m := newModel(s)
	for i, l := range lines {
		if r, _, _, _ := rowOf(l); !r.change {
			return i, api.ErrKeeperLine
		}
		if _, e := m.said(l); e != api.OK {
			return i, e
		}
	}
	return len(lines), api.OK
}

// P11.4: the first line of a file that asks or is an error is told, whatever comes behind it.
func TestDrawnFiles(t *testing.T) {
	many := map[api.Errno]int{}
	for i, s := range setups() {
		for n := range 100 {
			r := newDrawer(int64(500*i+n), s)
			lines := slices.Clone(r.play(t, 10+r.Intn(80), nil).Journal())
			lines = append(lines, r.anyLine(0), r.line(0), r.anyLine(5))
			file := strings.Join(lines, "\n") + "\n"
			lines = strings.Split(strings.TrimSuffix(file, "\n"), "\n") // a line that was drawn can have an end in it
			at, e := opening(s, lines)
			if d, n, f := keeper.Open(s, file); (d != nil) != (e == api.OK) || n != at || f != e {
				t.Fatalf("Open of %q: %v, %d, %d instead of %d, %d", file, d, n, f, at, e)
			}
			many[e]++
		}
	}
	for _, e := range []api.Errno{api.OK, api.ErrKeeperLine, api.ErrKeeperPast, api.ErrKeeperUnknown, api.ErrKeeperFalse, api.ErrRange, api.ErrFull} {
		if many[e] < 5 {
			t.Errorf("%d files have the error %d: too few to tell something", many[e], e)
		}
	}
}

// P11.7, R2: a line that is an error, or asks, changes nothing, and the tick never goes back.
func TestNothingChanges(t *testing.T) {
	errors, asked := 0, 0
	plays(t, 10, 300, func(_ drawer, d *keeper.Desk, x step) {
		r, _, _, _ := rowOf(x.line)
		if x.e != api.OK && x.said != "" {
			t.Fatalf("%q: %q, %d", x.line, x.said, x.e)
		}
		if d.Tick() < x.before.tick {
			t.Fatalf("%q: the tick went back from %d to %d", x.line, x.before.tick, d.Tick())
		}
		if r.change && x.e == api.OK {
			return
		}
		if all(d) != x.before.all() {
			t.Fatalf("%q: %s instead of %s", x.line, all(d), x.before.all())
		}
		errors += number(x.e != api.OK)
		asked += number(x.e == api.OK)
	})
	if min(errors, asked) < 1000 {
		t.Errorf("%d errors and %d answers: too few to tell something", errors, asked)
	}
}

// offsets are between what all offsets lie.
func offsets(t *testing.T, s api.KeeperSetup, looks []api.StarLook) []api.Span {
	t.Helper()
	b := s.Stars
	b.Looks = looks
	var list []api.Span
	for night := range b.Nights {
		x, e := star.Offset(b, night)
		if e != api.OK {
			t.Fatalf("the book with %v cannot be true: %d", looks, e)
		}
		list = append(list, x)
	}
	return list
}

// P11.8: the book of the stars can always be true, slave clocks can always be as the events say, and one look more makes no offset less sure.
func TestTheHouse(t *testing.T) {
	looks, seen := 0, 0
	plays(t, 20, 150, func(r drawer, d *keeper.Desk, x step) {
		if len(d.Journal()) == len(x.before.journal) {
			return
		}
		before, then := offsets(t, r.s, x.before.looks), offsets(t, r.s, d.Looks())
		for night := range then {
			if then[night].Low < before[night].Low || then[night].High > before[night].High {
				t.Fatalf("%q: the offset of %d was %v, and is %v", x.line, night, before[night], then[night])
			}
		}
		l := r.s.Slaves
		l.Events = d.Events()
		if wrong, e := slave.Wrong(l); len(wrong) > 0 || e != api.OK {
			t.Fatalf("%q: slave clocks cannot be as %v say: %v, %d", x.line, l.Events, wrong, e)
		}
		looks += number(len(d.Looks()) > len(x.before.looks))
		seen += number(len(l.Events) > len(x.before.events) && l.Events[len(l.Events)-1].Kind == api.SlaveLook)
	})
	if min(looks, seen) < 100 {
		t.Errorf("%d looks at stars, and %d at slave clocks: too few to tell something", looks, seen)
	}
}

// P11.9: what all places and the house got is what all calls of all hours paid.
func TestTheCallers(t *testing.T) {
	paid, hours := 0, 0
	for i, s := range setups() {
		for n := range 12 {
			coins, calls := 0, []api.CallerCall(nil)
			r := newDrawer(int64(700*i+n), s)
			r.play(t, 400, func(d *keeper.Desk, x step) {
				row, _, numbers, _ := rowOf(x.line)
				if row.word == "hour" && x.e == api.OK {
					coins += coinsOf(s, calls, numbers[0])
					hours++
				}
				calls = d.Calls()
				places, house := d.Got()
				for _, n := range places {
					house += n
				}
				if house != coins || len(places) != len(s.Places) {
					t.Fatalf("%q: %v and the house got %d instead of %d", x.line, places, house, coins)
				}
			})
			paid += number(coins > 0)
		}
	}
	if paid < 30 || hours < 200 {
		t.Errorf("%d desks with coins, and %d hours: too few to tell something", paid, hours)
	}
}

// coinsOf is what all calls pay that are joined.
func coinsOf(s api.KeeperSetup, calls []api.CallerCall, channels int) int {
	b := s.Prices
	b.Hours = [][]api.CallerCall{calls}
	list, _ := caller.Serve(b, 0, channels)
	all := 0
	for _, x := range list {
		if x.Channel >= 0 {
			all += b.Fee + b.Rate*((x.Left-x.Joined+b.Unit-1)/b.Unit)
		}
	}
	return all
}

// answered is what a line is answered that asks.
func answered(t *testing.T, d *keeper.Desk, l string) (list []int) {
	t.Helper()
	said, e := d.Do(l)
	if e != api.OK {
		t.Fatalf("%q: %d", l, e)
	}
	for _, token := range strings.Fields(said) {
		n := 0
		if _, err := fmt.Sscan(token, &n); err != nil {
			t.Fatalf("%q: %q", l, said)
		}
		list = append(list, n)
	}
	if said != numbered(list...) {
		t.Fatalf("%q: %q", l, said)
	}
	return list
}

// P11.10: an announcement that can be said has the words of the reading of its own tick, which is told in each place, too.
func TestTheAnnouncements(t *testing.T) {
	can, cannot := 0, 0
	for _, s := range []api.KeeperSetup{given(), bare(), broad()} {
		d := made(t, s)
		total, _ := dial.Total(s.Calendar)
		for tick := range total {
			does(t, d, fmt.Sprint("tick ", tick))
			if _, e := d.Do("next"); e != api.OK {
				fails(t, d, api.ErrNone, "next", "say")
				continue
			}
			next := answered(t, d, "next")[0]
			checkPlaces(t, s, d, next)
			reading, _ := dial.Reading(s.Calendar, next)
			if reading.Second%s.Each != 0 || next <= tick {
				t.Fatalf("%d: the next announcement is at %d", tick, next)
			}
			words, _ := voice.Words(reading)
			plan, e := voice.Plan(s.Voice, words, 100*tick, 100*next)
			if e != api.OK {
				fails(t, d, api.ErrNone, "say")
				cannot++
				continue
			}
			said := answered(t, d, "say")
			late, e := voice.Plan(s.Voice, words, said[1], 100*next)
			if said[0] != len(plan) || e != api.OK || late[0].At != said[1] || said[1] < 100*tick {
				t.Fatalf("%d: say: %v, and %v from then on", tick, said, late)
			}
			if _, e := voice.Plan(s.Voice, words, said[1]+1, 100*next); e != api.ErrNone {
				t.Fatalf("%d: say: %v, but it can begin later", tick, said)
			}
			can++
		}
	}
	if min(can, cannot) < 40 {
		t.Errorf("%d announcements that can be said, and %d that cannot: too few to tell something", can, cannot)
	}
}

// checkPlaces looks in each place at which ticks the local reading of a tick is.
func checkPlaces(t *testing.T, s api.KeeperSetup, d *keeper.Desk, tick int) {
	t.Helper()
	for i, town := range s.Towns {
		r, _ := dial.Local(s.Calendar, town, tick)
		if list := answered(t, d, fmt.Sprint("when ", s.Places[i], " ", told(r))); !slices.Contains(list, tick) {
			t.Fatalf("%s shows %v at %d, but is said to do so at %v", s.Places[i], r, tick, list)
		}
	}
}

// P11.10: plans that are told set all slave clocks, and signals that are sent sooner are off by as much as is told.
func TestAnswersHold(t *testing.T) {
	plans := 0
	plays(t, 6, 60, func(r drawer, d *keeper.Desk, _ step) {
		minute := r.Intn(r.s.Slaves.Ring)
		p := answered(t, d, fmt.Sprint("set ", minute))
		l := r.s.Slaves
		l.Events = d.Events()
		if is, e := slave.Sets(l, minute, api.SlavePlan{Pre: p[0], Home: p[1], First: p[2], Send: p[3]}); !is || e != api.OK {
			t.Fatalf("%v does not set %v to %d: %d", p, l, minute, e)
		}
		plans += number(len(l.Events) > 2)
		for i, place := range r.s.Places {
			if delay, e := line.Delay(r.s.Net, i+1); e == api.OK {
				if n := answered(t, d, "sooner "+place); max(n[0]-delay.Low, delay.High-n[0]) != n[1] {
					t.Fatalf("%s: %v for a delay of %v", place, n, delay)
				}
			}
		}
	})
	if plans < 100 {
		t.Errorf("%d plans behind several events: too few to tell something", plans)
	}
}

// spoil writes over a list, up to its capacity.
func spoil[T any](list []T) {
	clear(list[:cap(list)])
}

// P11.5, R4: a setup is copied, and only read.
func TestSetupIsCopied(t *testing.T) {
	for i, s := range setups() {
		mine, again := copyOf(s), copyOf(s)
		d := made(t, mine)
		other := opened(t, mine, "tick 0\n")
		if fmt.Sprint(mine) != fmt.Sprint(s) {
			t.Errorf("the setup %d was changed: %v", i, mine)
		}
		for k := range mine.Towns {
			spoil(mine.Towns[k].Changes)
		}
		for k := range mine.Voice.Pieces {
			spoil(mine.Voice.Pieces[k].Words)
		}
		for _, names := range [][]string{mine.Places, mine.People, mine.Paths, mine.Clocks} {
			spoil(names)
		}
		spoil(mine.Calendar.Decrees)
		spoil(mine.Towns)
		spoil(mine.Net.Lines)
		spoil(mine.Net.Loops)
		spoil(mine.Stars.People)
		spoil(mine.Stars.Paths)
		spoil(mine.Voice.Discs)
		spoil(mine.Voice.Pieces)
		spoil(mine.Slaves.Starts)
		spoil(mine.Prices.Shares)
		r, m := newDrawer(int64(i), again), newModel(again)
		m.do("tick 0")
		does(t, d, "tick 0")
		for range 200 {
			l := r.line(d.Tick())
			want, e := m.said(l)
			play(t, d, says{l, want, e})
			play(t, other, says{l, want, e})
		}
	}
}

// P11.5, R4: results are new memory.
func TestResults(t *testing.T) {
	plays(t, 3, 80, func(_ drawer, d *keeper.Desk, x step) {
		before := all(d)
		places, _ := d.Got()
		spoil(places)
		spoil(d.Looks())
		spoil(d.Events())
		spoil(d.Calls())
		spoil(d.Journal())
		if all(d) != before {
			t.Fatalf("behind %q what was returned was written into: %s instead of %s", x.line, all(d), before)
		}
	})
	d := made(t, given())
	does(t, d, "star ada 0 40 5", "send 4 1", "call hall 20 2", "hour 1", "call hall 20 2")
	looks, events, calls, journal := d.Looks(), d.Events(), d.Calls(), d.Journal()
	places, _ := d.Got()
	kept := fmt.Sprint(looks, events, calls, journal, places)
	does(t, d, "star ben 0 60 10", "home 4 1", "call wick 20 2", "hour 1", "call hall 0 1")
	if fmt.Sprint(looks, events, calls, journal, places) != kept {
		t.Errorf("what was returned is another one: %v, %v, %v, %q, %v instead of %s", looks, events, calls, journal, places, kept)
	}
}

// P2, R4: desks share nothing, also those of one setup, and each is what its own lines make it.
func TestTwoDesks(t *testing.T) {
	for i, s := range setups() {
		one, other := made(t, s), made(t, s)
		r, m := newDrawer(int64(i), s), newModel(s)
		for range 300 {
			l := r.line(one.Tick())
			want, e := m.said(l)
			play(t, one, says{l, want, e})
			other.Do(r.anyLine(other.Tick()))
			if all(one) != m.all() {
				t.Fatalf("%q: %s instead of %s", l, all(one), m.all())
			}
		}
	}
}

// P1: any text has an answer, or an error.
func TestAnyText(t *testing.T) {
	r := rand.New(rand.NewSource(1))
	words := []string{"", "tick", "star", "call", "when", "hour", "time", "hall", "wick", "ada", "rio", "gate", "0", "1", "5", "-1", "999999", "00", "\n", "\x00", "\xff", "é", "-"}
	for n := range 20000 {
		var tokens []string
		for range r.Intn(7) {
			tokens = append(tokens, words[r.Intn(len(words))])
		}
		l := strings.Join(tokens, " ")
		d, m := made(t, given()), newModel(given())
		want, e := m.said(l)
		play(t, d, says{l, want, e})
		if _, at, f := keeper.Open(given(), l+"\n"); n%10 == 0 && !strings.Contains(l, "\n") {
			if k, g := opening(given(), []string{l}); at != k || f != g {
				t.Errorf("Open of %q: %d, %d instead of %d, %d", l, at, f, k, g)
			}
		}
	}
}

// number is 1 of what is so.
func number(is bool) int {
	if is {
		return 1
	}
	return 0
}
