package keeper_test

import (
	"fmt"
	"math/rand"
	"regexp"
	"slices"
	"strconv"
	"strings"
	"testing"

	"remontoir/api"
	"remontoir/caller"
	"remontoir/dial"
	"remontoir/keeper"
	"remontoir/line"
	"remontoir/slave"
	"remontoir/star"
	"remontoir/voice"
)

// The model: lines have the form if an expression matches them, and each is done just as its row of the chapter's tables says. What a desk is asked for comes from other functions of the layers below than those that the keeper calls, where there are some.

func to(low, high int) api.Span { return api.Span{Low: low, High: high} }

func piece(disc, begin, long int, words ...int) api.VoicePiece {
	return api.VoicePiece{Words: words, Disc: disc, Begin: begin, Long: long}
}

func join(from, other, low, high int) api.LineLine {
	return api.LineLine{From: from, To: other, Delay: to(low, high)}
}

// given is the setup of the chapter's examples.
func given() api.KeeperSetup {
	return api.KeeperSetup{
		Calendar: api.DialCalendar{Hours: 3, Minutes: 4, Seconds: 10, Days: 2, Decrees: []api.DialDecree{{Day: 0, Plus: true}}},
		Places:   []string{"hall", "wick"}, Towns: []api.DialTown{{Ahead: 5, Changes: []api.DialChange{{Tick: 60, Ahead: 3}}}, {Ahead: -1}},
		Net:   api.LineNet{Exchanges: 3, Hops: 2, Lines: []api.LineLine{join(0, 1, 10, 14), join(1, 2, 5, 5)}},
		Stars: api.StarBook{Nights: 3, Begin: to(0, 100), Rate: to(-10, 20), People: []api.Span{to(-50, 50), to(-20, 20)}, Paths: []api.Span{to(30, 60)}}, People: []string{"ada", "ben"}, Paths: []string{"rio"},
		Voice: api.VoiceBook{Discs: []int{10, 16}, Pause: to(1, 6), Rest: to(2, 20), Pieces: []api.VoicePiece{piece(0, 2, 5, 1), piece(1, 4, 8, 102), piece(1, 0, 12, 1, 102), piece(0, 7, 6, 205), piece(1, 9, 14, 102, 205)}}, Each: 5,
		Slaves: api.SlaveLine{Ring: 12, Starts: []api.SlaveStart{{Shown: 10, Last: 1}}}, Clocks: []string{"gate"},
		Prices: api.CallerBook{Each: 10, Fee: 2, Rate: 3, Unit: 30, Shares: []int{40, 25}},
	}
}

// bare is a setup with as little as can be: nobody observes, and the place cannot be reached.
func bare() api.KeeperSetup {
	return api.KeeperSetup{
		Calendar: api.DialCalendar{Hours: 1, Minutes: 1, Seconds: 2, Days: 1}, Places: []string{"a"}, Towns: []api.DialTown{{}},
		Net: api.LineNet{Exchanges: 2, Hops: 1}, Stars: api.StarBook{Nights: 1},
		Voice: api.VoiceBook{Discs: []int{1}, Pieces: []api.VoicePiece{piece(0, 0, 1, 0)}}, Each: 1,
		Slaves: api.SlaveLine{Ring: 2, Starts: []api.SlaveStart{{}}}, Clocks: []string{"a"},
		Prices: api.CallerBook{Each: 1, Unit: 1, Shares: []int{0}},
	}
}

// broad is a setup with as many places, observers, stations and slave clocks as there can be, which share names; all announcements can be said, also those of the seconds that a decree puts in, and the last place has loops that contradict each other.
func broad() api.KeeperSetup {
	names := []string{"a", strings.Repeat("z", api.MaxName), "b-2-", "d0"}
	s := api.KeeperSetup{
		Calendar: api.DialCalendar{Hours: 2, Minutes: 2, Seconds: 6, Days: 3, Decrees: []api.DialDecree{{Day: 0}, {Day: 1, Plus: true}}},
		Places:   names, Towns: []api.DialTown{{}, {Ahead: 1440}, {Ahead: -3, Changes: []api.DialChange{{Tick: 1, Ahead: 1}, {Tick: 40, Ahead: -1}}}, {Ahead: 2, Changes: []api.DialChange{{Tick: 71, Ahead: 0}}}},
		Net:   api.LineNet{Exchanges: 5, Hops: 4, Lines: []api.LineLine{join(0, 1, 1, 2), join(1, 2, 3, 10), join(0, 2, 4, 30), join(2, 3, 7, 7), join(3, 4, 0, 1)}, Loops: []api.LineLoop{{Exchange: 3, Read: to(25, 60)}, {Exchange: 4, Read: to(0, 9)}}},
		Stars: api.StarBook{Nights: 8, Begin: to(-20000, 20000), Rate: to(-1000, 1000), People: slices.Repeat([]api.Span{to(-2000, 2000)}, 4), Paths: slices.Repeat([]api.Span{to(0, 5000)}, 4)}, People: names, Paths: names,
		Voice: api.VoiceBook{Discs: []int{10, 16, 7}, Pause: to(0, 30), Rest: to(0, 50)}, Each: 3,
		Slaves: api.SlaveLine{Ring: 24, Starts: []api.SlaveStart{{}, {Shown: 23}, {Last: 1}, {Shown: 12, Last: 1}}}, Clocks: names,
		Prices: api.CallerBook{Each: 7, Fee: 100, Rate: 99, Unit: 3, Shares: []int{100, 0, 33, 99}},
	}
	for i, words := range [][]int{{0}, {1}, {100}, {101}, {200}, {203}, {206}, {101, 203}} {
		s.Voice.Pieces = append(s.Voice.Pieces, piece(i%3, i%5, 5+i%3, words...))
	}
	return s
}

// days is a setup with long days, so that hours can be too long for a call.
func days() api.KeeperSetup {
	s := given()
	s.Calendar = api.DialCalendar{Hours: 24, Minutes: 60, Seconds: 60, Days: 10, Decrees: []api.DialDecree{{Day: 0, Plus: true}, {Day: 9}}}
	s.Towns, s.Each = []api.DialTown{{Ahead: -1440}, {Ahead: 90, Changes: []api.DialChange{{Tick: 7, Ahead: 30}}}}, 60
	return s
}

// setups are those in which lines are played.
func setups() []api.KeeperSetup {
	return []api.KeeperSetup{given(), bare(), broad(), days()}
}

// copyOf is a setup that shares nothing with another one.
func copyOf(s api.KeeperSetup) api.KeeperSetup {
	s.Calendar.Decrees = slices.Clone(s.Calendar.Decrees)
	s.Places, s.People, s.Paths, s.Clocks = slices.Clone(s.Places), slices.Clone(s.People), slices.Clone(s.Paths), slices.Clone(s.Clocks)
	s.Towns = slices.Clone(s.Towns)
	for i := range s.Towns {
		s.Towns[i].Changes = slices.Clone(s.Towns[i].Changes)
	}
	s.Net.Lines, s.Net.Loops = slices.Clone(s.Net.Lines), slices.Clone(s.Net.Loops)
	s.Stars.People, s.Stars.Paths = slices.Clone(s.Stars.People), slices.Clone(s.Stars.Paths)
	s.Voice.Discs, s.Voice.Pieces = slices.Clone(s.Voice.Discs), slices.Clone(s.Voice.Pieces)
	for i := range s.Voice.Pieces {
		s.Voice.Pieces[i].Words = slices.Clone(s.Voice.Pieces[i].Words)
	}
	s.Slaves.Starts, s.Prices.Shares = slices.Clone(s.Slaves.Starts), slices.Clone(s.Prices.Shares)
	return s
}

// expressions of the tokens: any text, a number, and a signed number.
const (
	anyToken = ` ([^ ]+)`
	plain    = ` (0|[1-9][0-9]{0,5})`
	signed   = ` (0|-?[1-9][0-9]{0,5})`
)

// row is a row of the chapter's tables.
type row struct {
	word   string
	tokens string
	form   *regexp.Regexp
	change bool
	does   func(m *model, name string, n []int) (string, api.Errno)
}

// rows are those of both tables.
func rows() []row {
	list := []row{
		{word: "tick", tokens: "N", change: true, does: (*model).tickTo}, {word: "star", tokens: "WNZM", change: true, does: (*model).star}, {word: "signal", tokens: "WNZM", change: true, does: (*model).signal}, {word: "send", tokens: "NM", change: true, does: (*model).send}, {word: "home", tokens: "NM", change: true, does: (*model).home}, {word: "look", tokens: "CN", change: true, does: (*model).look}, {word: "call", tokens: "PNM", change: true, does: (*model).call}, {word: "hour", tokens: "N", change: true, does: (*model).hour},
		{word: "time", does: (*model).time}, {word: "local", tokens: "P", does: (*model).local}, {word: "when", tokens: "PZNNN", does: (*model).when}, {word: "next", does: (*model).next}, {word: "say", does: (*model).say}, {word: "sooner", tokens: "P", does: (*model).sooner}, {word: "offset", tokens: "N", does: (*model).offset}, {word: "person", tokens: "W", does: (*model).person}, {word: "path", tokens: "W", does: (*model).path}, {word: "shown", tokens: "C", does: (*model).shown}, {word: "lost", tokens: "C", does: (*model).lost}, {word: "set", tokens: "N", does: (*model).set}, {word: "served", tokens: "N", does: (*model).served}, {word: "fewest", does: (*model).fewest}, {word: "got", tokens: "P", does: (*model).gotBy}, {word: "house", does: (*model).houseGot},
	}
	for i := range list {
		text := `\A` + list[i].word
		for _, as := range list[i].tokens {
			text += map[rune]string{'N': plain, 'M': plain, 'Z': signed, 'P': anyToken, 'W': anyToken, 'C': anyToken}[as]
		}
		list[i].form = regexp.MustCompile(text + `\z`)
	}
	return list
}

var table = rows()

// rowOf is the row of a line, with the name and the numbers in it, if it has the form.
func rowOf(l string) (r row, name string, n []int, is bool) {
	if len(l) > 200 {
		return row{}, "", nil, false
	}
	for _, r := range table {
		found := r.form.FindStringSubmatch(l)
		if found == nil {
			continue
		}
		for i, as := range r.tokens {
			if strings.ContainsRune("NMZ", as) {
				x, _ := strconv.Atoi(found[i+1])
				n = append(n, x)
			} else {
				name = found[i+1]
			}
		}
		return r, name, n, true
	}
	return row{}, "", nil, false
}

// model is what a desk has.
type model struct {
	s                 api.KeeperSetup
	tick, sign, since int
	looks             []api.StarLook
	events            []api.SlaveEvent
	calls             []api.CallerCall
	got               []int
	coins             int
	journal           []string
}

func newModel(s api.KeeperSetup) *model { return &model{s: s, got: make([]int, len(s.Places))} }

// do is what a line does, and answers.
func (m *model) do(l string) (string, api.Errno) {
	r, name, n, is := rowOf(l)
	switch {
	case !is:
		return "", api.ErrKeeperLine
	case r.change && len(m.journal) == 300:
		return "", api.ErrFull
	}
	said, e := r.does(m, name, n)
	if r.change && e == api.OK {
		m.journal = append(m.journal, l)
	}
	return said, e
}

func numbered(n ...int) string { return strings.Trim(fmt.Sprint(n), "[]") }

// dashed is a list that is - if it is empty.
func dashed(n []int) string {
	if len(n) == 0 {
		return "-"
	}
	return numbered(n...)
}

// check is the first error of which something is so.
type check struct {
	is bool
	e  api.Errno
}

func first(list ...check) api.Errno {
	for _, x := range list {
		if x.is {
			return x.e
		}
	}
	return api.OK
}

func (m *model) tickTo(_ string, n []int) (string, api.Errno) {
	total, _ := dial.Total(m.s.Calendar)
	if n[0] < m.tick || n[0] >= total {
		return "", api.ErrKeeperPast
	}
	m.tick = n[0]
	return "", api.OK
}

func (m *model) star(name string, n []int) (string, api.Errno) {
	return m.see(api.StarSeen, slices.Index(m.s.People, name), n)
}

func (m *model) signal(name string, n []int) (string, api.Errno) {
	return m.see(api.StarSignal, slices.Index(m.s.Paths, name), n)
}

func (m *model) see(kind, who int, n []int) (string, api.Errno) {
	if e := first(check{who < 0, api.ErrKeeperUnknown}, check{n[0] >= m.s.Stars.Nights || max(n[1], -n[1]) > 30000 || n[2] > 2000, api.ErrRange}, check{len(m.looks) == 10, api.ErrFull}); e != api.OK {
		return "", e
	}
	all := append(slices.Clone(m.looks), api.StarLook{Night: n[0], Kind: kind, Who: who, Read: n[1], Err: n[2]})
	if wrong, _ := star.Wrong(m.stars(all)); len(wrong) > 0 {
		return "", api.ErrKeeperFalse
	}
	m.looks = all
	return numbered(len(all)), api.OK
}

func (m *model) send(_ string, n []int) (string, api.Errno) {
	said, e := m.pulses(api.SlaveEvent{Kind: api.SlaveSend, First: m.sign}, n)
	for range n[0] {
		if e == api.OK {
			m.sign = 1 - m.sign
		}
	}
	return said, e
}

func (m *model) home(_ string, n []int) (string, api.Errno) {
	return m.pulses(api.SlaveEvent{Kind: api.SlaveHome}, n)
}

func (m *model) pulses(x api.SlaveEvent, n []int) (string, api.Errno) {
	x.Count, x.Lost = n[0], n[1]
	return m.event(x, first(check{n[0] > 60 || n[1] > 3, api.ErrRange}, check{len(m.events) == 10, api.ErrFull}))
}

func (m *model) look(name string, n []int) (string, api.Errno) {
	who := slices.Index(m.s.Clocks, name)
	x := api.SlaveEvent{Kind: api.SlaveLook, Who: who, Shown: n[0]}
	return m.event(x, first(check{who < 0, api.ErrKeeperUnknown}, check{n[0] >= m.s.Slaves.Ring, api.ErrRange}, check{len(m.events) == 10, api.ErrFull}))
}

// event adds an event, if there is no error yet, and slave clocks can be so.
func (m *model) event(x api.SlaveEvent, e api.Errno) (string, api.Errno) {
	if e != api.OK {
		return "", e
	}
	all := append(slices.Clone(m.events), x)
	if wrong, _ := slave.Wrong(m.slaves(all)); len(wrong) > 0 {
		return "", api.ErrKeeperFalse
	}
	m.events = all
	return numbered(len(all)), api.OK
}

func (m *model) call(name string, n []int) (string, api.Errno) {
	from := slices.Index(m.s.Places, name)
	if e := first(check{from < 0, api.ErrKeeperUnknown}, check{n[0] > 3600 || n[1] < 1 || n[1] > 5 || m.tick-m.since > 3599, api.ErrRange}, check{len(m.calls) == 12, api.ErrFull}); e != api.OK {
		return "", e
	}
	m.calls = append(slices.Clone(m.calls), api.CallerCall{At: m.tick - m.since, Wait: n[0], Hear: n[1], From: from})
	return numbered(len(m.calls)), api.OK
}

func (m *model) hour(_ string, n []int) (string, api.Errno) {
	if n[0] < 1 || n[0] > 20 {
		return "", api.ErrRange
	}
	house := 0
	for i, x := range m.serve(n[0]) {
		if x.Channel < 0 {
			continue
		}
		pays := m.s.Prices.Fee
		for second := x.Joined; second < x.Left; second += m.s.Prices.Unit {
			pays += m.s.Prices.Rate
		}
		from := m.calls[i].From
		m.got[from] += pays * m.s.Prices.Shares[from] / 100
		house += pays - pays*m.s.Prices.Shares[from]/100
	}
	m.coins += house
	m.calls, m.since = nil, m.tick
	return numbered(house), api.OK
}

// serve is how the calls are served.
func (m *model) serve(channels int) []api.CallerServed {
	list, _ := caller.Serve(m.hourOf(), 0, channels)
	return list
}

// lostOn are the calls that are given up.
func (m *model) lostOn(channels int) []int {
	var list []int
	for i, x := range m.serve(channels) {
		if x.Channel < 0 {
			list = append(list, i)
		}
	}
	return list
}

func (m *model) stars(looks []api.StarLook) api.StarBook {
	b := m.s.Stars
	b.Looks = looks
	return b
}

func (m *model) slaves(events []api.SlaveEvent) api.SlaveLine {
	l := m.s.Slaves
	l.Events = events
	return l
}

func (m *model) hourOf() api.CallerBook {
	b := m.s.Prices
	b.Hours = [][]api.CallerCall{m.calls}
	return b
}

func told(r api.DialReading) string { return numbered(r.Day, r.Hour, r.Minute, r.Second) }

func (m *model) time(string, []int) (string, api.Errno) {
	r, e := dial.Reading(m.s.Calendar, m.tick)
	return told(r), e
}

func (m *model) local(name string, _ []int) (string, api.Errno) {
	place := slices.Index(m.s.Places, name)
	if place < 0 {
		return "", api.ErrKeeperUnknown
	}
	r, e := dial.Local(m.s.Calendar, m.s.Towns[place], m.tick)
	return told(r), e
}

func (m *model) when(name string, n []int) (string, api.Errno) {
	place := slices.Index(m.s.Places, name)
	if place < 0 {
		return "", api.ErrKeeperUnknown
	}
	total, _ := dial.Total(m.s.Calendar)
	if total > 1000 { // too many to look at each
		list, e := dial.Ticks(m.s.Calendar, m.s.Towns[place], api.DialReading{Day: n[0], Hour: n[1], Minute: n[2], Second: n[3]})
		return dashed(list), e
	}
	var list []int
	for tick := range total {
		if r, _ := dial.Local(m.s.Calendar, m.s.Towns[place], tick); told(r) == numbered(n...) {
			list = append(list, tick)
		}
	}
	return dashed(list), api.OK
}

// announced is the tick of the next announcement, or -1.
func (m *model) announced() int {
	for tick := m.tick + 1; ; tick++ {
		r, e := dial.Reading(m.s.Calendar, tick)
		if e != api.OK {
			return -1
		}
		if r.Second%m.s.Each == 0 {
			return tick
		}
	}
}

func (m *model) next(string, []int) (string, api.Errno) {
	if m.announced() < 0 {
		return "", api.ErrNone
	}
	return numbered(m.announced()), api.OK
}

func (m *model) say(string, []int) (string, api.Errno) {
	many, _ := voice.Day(m.s.Voice, m.s.Calendar, m.tick, m.s.Each, 1)
	if len(many) == 0 || many[0] < 0 {
		return "", api.ErrNone
	}
	r, _ := dial.Reading(m.s.Calendar, m.announced())
	at, e := voice.Latest(m.s.Voice, []int{r.Hour, 100 + r.Minute, 200 + r.Second}, 100*m.tick, 100*m.announced())
	return numbered(many[0], at), e
}

func (m *model) sooner(name string, _ []int) (string, api.Errno) {
	place := slices.Index(m.s.Places, name)
	if place < 0 {
		return "", api.ErrKeeperUnknown
	}
	d, e := line.Delay(m.s.Net, place+1)
	if e != api.OK {
		return "", api.ErrNone
	}
	return numbered((d.Low+d.High)/2, d.High-(d.Low+d.High)/2), api.OK
}

func (m *model) offset(_ string, n []int) (string, api.Errno) {
	if n[0] >= m.s.Stars.Nights {
		return "", api.ErrRange
	}
	least, _ := star.Case(m.stars(m.looks), n[0], false)
	most, e := star.Case(m.stars(m.looks), n[0], true)
	return numbered(least.Offsets[n[0]], most.Offsets[n[0]]), e
}

func (m *model) person(name string, _ []int) (string, api.Errno) {
	s, e := star.Person(m.stars(m.looks), slices.Index(m.s.People, name))
	return numbered(s.Low, s.High), e
}

func (m *model) path(name string, _ []int) (string, api.Errno) {
	s, e := star.Path(m.stars(m.looks), slices.Index(m.s.Paths, name))
	return numbered(s.Low, s.High), e
}

func (m *model) shown(name string, _ []int) (string, api.Errno) {
	list, e := slave.Can(m.slaves(m.events), slices.Index(m.s.Clocks, name))
	return numbered(list...), e
}

func (m *model) lost(name string, _ []int) (string, api.Errno) {
	s, e := slave.Lost(m.slaves(m.events), slices.Index(m.s.Clocks, name))
	return numbered(s.Low, s.High), e
}

func (m *model) set(_ string, n []int) (string, api.Errno) {
	p, e := slave.Set(m.slaves(m.events), n[0])
	return numbered(p.Pre, p.Home, p.First, p.Send), e
}

func (m *model) served(_ string, n []int) (string, api.Errno) {
	if n[0] < 1 || n[0] > 20 {
		return "", api.ErrRange
	}
	return dashed(m.lostOn(n[0])), api.OK
}

func (m *model) fewest(string, []int) (string, api.Errno) {
	n := 1
	for len(m.lostOn(n)) > 0 {
		n++
	}
	return numbered(n), api.OK
}

func (m *model) gotBy(name string, _ []int) (string, api.Errno) {
	place := slices.Index(m.s.Places, name)
	if place < 0 {
		return "", api.ErrKeeperUnknown
	}
	return numbered(m.got[place]), api.OK
}

func (m *model) houseGot(string, []int) (string, api.Errno) { return numbered(m.coins), api.OK }

// said is what a line is answered by the model, with the errors of the layers below as those of the keeper.
func (m *model) said(l string) (string, api.Errno) {
	said, e := m.do(l)
	switch e {
	case api.OK:
		return said, e
	case api.ErrStarAsk, api.ErrSlaveAsk: // of a name, or of a minute
		if r, _, _, _ := rowOf(l); r.word == "set" {
			return "", api.ErrRange
		}
		return "", api.ErrKeeperUnknown
	}
	return "", e
}

// made is a new desk.
func made(t *testing.T, s api.KeeperSetup) *keeper.Desk {
	t.Helper()
	d, e := keeper.New(s)
	if e != api.OK || d == nil {
		t.Fatalf("New: %v, %d", d, e)
	}
	return d
}

// opened is the desk of a file that has no errors.
func opened(t *testing.T, s api.KeeperSetup, file string) *keeper.Desk {
	t.Helper()
	d, at, e := keeper.Open(s, file)
	if e != api.OK || d == nil || at != strings.Count(file, "\n") {
		t.Fatalf("Open: %v, %d, %d", d, at, e)
	}
	return d
}

// all is all that a desk tells of what it has.
func all(d *keeper.Desk) string {
	places, house := d.Got()
	return fmt.Sprint(d.Tick(), d.Looks(), d.Events(), d.Calls(), places, house, len(d.Journal()), strings.Join(d.Journal(), "|"), d.File())
}

// all is the same of the model.
func (m *model) all() string {
	file := ""
	for _, l := range m.journal {
		file += l + "\n"
	}
	return fmt.Sprint(m.tick, m.looks, m.events, m.calls, m.got, m.coins, len(m.journal), strings.Join(m.journal, "|"), file)
}

// drawer draws lines for a desk.
type drawer struct {
	*rand.Rand
	s api.KeeperSetup
}

func newDrawer(seed int64, s api.KeeperSetup) drawer {
	return drawer{rand.New(rand.NewSource(seed)), s}
}

func (r drawer) of(list ...string) string { return list[r.Intn(len(list))] }

// named is one of some names; sometimes another one.
func (r drawer) named(names []string) string {
	if len(names) == 0 || r.Intn(12) == 0 {
		return r.of("oslo", "a", "A", "x-9", "0", "-", strings.Repeat("z", 17), "\n", "é", "\xff")
	}
	return r.of(names...)
}

// upTo is a number that is mostly from 0 to most, and sometimes a little above it.
func (r drawer) upTo(most int) int {
	switch r.Intn(12) {
	case 0:
		return most
	case 1:
		return most + 1
	case 2:
		return 0
	}
	return r.Intn(most + 1)
}

// word is one of the words of the tables; those that fill lists come more often.
func (r drawer) word() string {
	if r.Intn(3) == 0 {
		return r.of("tick", "star", "signal", "send", "home", "look", "look", "call", "call", "call")
	}
	return table[r.Intn(len(table))].word
}

// line is a line that mostly has the form, for a desk that has this tick.
func (r drawer) line(tick int) string {
	total, _ := dial.Total(r.s.Calendar)
	word := r.word()
	l := []any{word}
	switch word {
	case "tick":
		l = append(l, r.tickFrom(tick, total))
	case "star":
		l = append(l, r.named(r.s.People), r.upTo(r.s.Stars.Nights-1), r.read(), r.err())
	case "signal":
		l = append(l, r.named(r.s.Paths), r.upTo(r.s.Stars.Nights-1), r.read(), r.err())
	case "send", "home":
		l = append(l, r.upTo([]int{3, 8, 60}[r.Intn(3)]), r.upTo(3))
	case "look":
		l = append(l, r.named(r.s.Clocks), r.upTo(r.s.Slaves.Ring-1))
	case "call":
		l = append(l, r.named(r.s.Places), r.upTo([]int{0, 20, 3600}[r.Intn(3)]), r.upTo(5))
	case "hour", "served":
		l = append(l, []int{1, 1, 2, 3, r.upTo(20)}[r.Intn(5)])
	case "when":
		l = append(l, r.named(r.s.Places), r.upTo(r.s.Calendar.Days)-1, r.upTo(r.s.Calendar.Hours-1), r.upTo(r.s.Calendar.Minutes-1), r.upTo(r.s.Calendar.Seconds))
	case "local", "sooner", "got":
		l = append(l, r.named(r.s.Places))
	case "offset":
		l = append(l, r.upTo(r.s.Stars.Nights-1))
	case "person":
		l = append(l, r.named(r.s.People))
	case "path":
		l = append(l, r.named(r.s.Paths))
	case "shown", "lost":
		l = append(l, r.named(r.s.Clocks))
	case "set":
		l = append(l, r.upTo(r.s.Slaves.Ring-1))
	}
	return strings.TrimSuffix(fmt.Sprintln(l...), "\n")
}

// tickFrom is a tick that is mostly a little later than another one.
func (r drawer) tickFrom(tick, total int) int {
	switch r.Intn(10) {
	case 0:
		return max(0, tick-1)
	case 1:
		return total - 1 + r.Intn(2)
	case 2:
		return tick
	}
	return tick + r.Intn(1+total/60)
}

// read is what is read of a look: mostly near to what can be.
func (r drawer) read() int {
	if r.Intn(10) == 0 {
		return []int{30000, -30000, 30001, -30001}[r.Intn(4)]
	}
	b := r.s.Stars.Begin
	return b.Low + r.Intn(b.High-b.Low+1)
}

func (r drawer) err() int { return r.upTo([]int{5, 30, 2000}[r.Intn(3)]) }

// spoilt is a line with something changed in it.
func (r drawer) spoilt(l string) string {
	at := r.Intn(len(l) + 1)
	switch r.Intn(6) {
	case 0:
		return l[:at]
	case 1:
		return l[:at] + r.of(" ", "0", "-", "+", "x", "\t", "\n", "\x00", "_", "00", "1", ".", "é", "\xff") + l[at:]
	case 2:
		return l + r.of(" ", " 0", "\n", " x", "\r")
	case 3:
		return strings.ToUpper(l)
	case 4:
		return r.of(" ", "-", "+", "0") + l
	}
	return strings.Replace(l, " ", r.of("  ", "", "\t", " 0", " -", " +", " \u00a0"), 1+r.Intn(2))
}

// anyLine is a line, sometimes spoilt.
func (r drawer) anyLine(tick int) string {
	l := r.line(tick)
	if r.Intn(6) == 0 {
		return r.spoilt(l)
	}
	return l
}
