package keeper_test

import (
	"fmt"
	"math"
	"slices"
	"strings"
	"testing"

	"remontoir/api"
	"remontoir/keeper"
)

// says is a line, its answer, and its error.
type says struct {
	line, answer string
	e            api.Errno
}

// play does lines, and looks at what they are answered.
func play(t *testing.T, d *keeper.Desk, list ...says) {
	t.Helper()
	for _, x := range list {
		if said, e := d.Do(x.line); said != x.answer || e != x.e {
			t.Errorf("%q: %q, %d instead of %q, %d", x.line, said, e, x.answer, x.e)
		}
	}
}

// fails does lines that all have the same error.
func fails(t *testing.T, d *keeper.Desk, e api.Errno, lines ...string) {
	t.Helper()
	for _, l := range lines {
		play(t, d, says{l, "", e})
	}
}

// does does lines that are no errors, whatever they are answered.
func does(t *testing.T, d *keeper.Desk, lines ...string) {
	t.Helper()
	for _, l := range lines {
		if _, e := d.Do(l); e != api.OK {
			t.Errorf("%q: %d", l, e)
		}
	}
}

// changed is the setup of the chapter's examples with something changed.
func changed(change func(s *api.KeeperSetup)) api.KeeperSetup {
	s := given()
	change(&s)
	return s
}

// wrongSetups are setups each of which has one thing that must not be.
func wrongSetups() map[string]api.KeeperSetup {
	all := map[string]api.KeeperSetup{"nothing": {}}
	for name, change := range map[string]func(s *api.KeeperSetup){
		"the calendar": func(s *api.KeeperSetup) { s.Calendar.Days = 11 }, "its decrees": func(s *api.KeeperSetup) { s.Calendar.Decrees[0].Day = 2 },
		"no places": func(s *api.KeeperSetup) {
			s.Places, s.Towns, s.Net, s.Prices.Shares = nil, nil, api.LineNet{Exchanges: 1, Hops: 1}, nil
		},
		"five places": func(s *api.KeeperSetup) {
			s.Places, s.Towns, s.Net, s.Prices.Shares = []string{"a", "b", "c", "d", "e"}, make([]api.DialTown, 5), api.LineNet{Exchanges: 6, Hops: 1}, make([]int, 5)
		},
		"a place more": func(s *api.KeeperSetup) { s.Places = append(s.Places, "c") }, "a place less": func(s *api.KeeperSetup) { s.Places = s.Places[:1] }, "the same places": func(s *api.KeeperSetup) { s.Places = []string{"hall", "hall"} },
		"a town more": func(s *api.KeeperSetup) { s.Towns = append(s.Towns, api.DialTown{}) }, "a town less": func(s *api.KeeperSetup) { s.Towns = s.Towns[:1] }, "no towns": func(s *api.KeeperSetup) { s.Towns = nil }, "the last town": func(s *api.KeeperSetup) { s.Towns[1].Ahead = -1441 }, "a town of another calendar": func(s *api.KeeperSetup) { s.Towns[0].Changes[0].Tick = 241 },
		"an exchange more": func(s *api.KeeperSetup) { s.Net.Exchanges = 4 }, "an exchange less": func(s *api.KeeperSetup) { s.Net = api.LineNet{Exchanges: 2, Hops: 1} }, "the net": func(s *api.KeeperSetup) { s.Net.Lines[1].To = 1 }, "a loop": func(s *api.KeeperSetup) { s.Net.Loops = []api.LineLoop{{Exchange: 3, Read: to(0, 9)}} },
		"the stars": func(s *api.KeeperSetup) { s.Stars.Begin = to(1, 0) }, "a look": func(s *api.KeeperSetup) { s.Stars.Looks = []api.StarLook{{Read: 40, Err: 5}} },
		"a person more": func(s *api.KeeperSetup) { s.People = append(s.People, "eve") }, "a person less": func(s *api.KeeperSetup) { s.People = s.People[:1] }, "the same people": func(s *api.KeeperSetup) { s.People[0] = "ben" }, "five people": func(s *api.KeeperSetup) {
			s.People, s.Stars.People = []string{"a", "b", "c", "d", "e"}, make([]api.Span, 5)
		},
		"a path more": func(s *api.KeeperSetup) { s.Paths = append(s.Paths, "eve") }, "a path less": func(s *api.KeeperSetup) { s.Paths = nil }, "the same paths": func(s *api.KeeperSetup) {
			s.Stars.Paths, s.Paths = make([]api.Span, 3), []string{"rio", "a", "rio"}
		},
		"the voice": func(s *api.KeeperSetup) { s.Voice.Rest = to(0, 501) }, "a piece": func(s *api.KeeperSetup) { s.Voice.Pieces[4].Disc = 2 }, "each below": func(s *api.KeeperSetup) { s.Each = 0 }, "each far below": func(s *api.KeeperSetup) { s.Each = math.MinInt }, "each above": func(s *api.KeeperSetup) { s.Each = 61 },
		"the ring": func(s *api.KeeperSetup) { s.Slaves.Ring = 61 }, "an event": func(s *api.KeeperSetup) { s.Slaves.Events = []api.SlaveEvent{{}} }, "no slave clocks": func(s *api.KeeperSetup) { s.Slaves.Starts, s.Clocks = nil, nil }, "a clock more": func(s *api.KeeperSetup) { s.Clocks = append(s.Clocks, "door") }, "a clock less": func(s *api.KeeperSetup) { s.Clocks = nil }, "the same clocks": func(s *api.KeeperSetup) {
			s.Slaves.Starts, s.Clocks = make([]api.SlaveStart, 2), []string{"gate", "gate"}
		},
		"the prices": func(s *api.KeeperSetup) { s.Prices.Rate = 101 }, "an hour without calls": func(s *api.KeeperSetup) { s.Prices.Hours = [][]api.CallerCall{{}} }, "hours": func(s *api.KeeperSetup) { s.Prices.Hours = make([][]api.CallerCall, 5) }, "a share more": func(s *api.KeeperSetup) { s.Prices.Shares = append(s.Prices.Shares, 1) }, "a share less": func(s *api.KeeperSetup) { s.Prices.Shares = s.Prices.Shares[:1] }, "a share above": func(s *api.KeeperSetup) { s.Prices.Shares[1] = 101 },
	} {
		all[name] = changed(change)
	}
	for _, name := range []string{"", strings.Repeat("a", 17), "A", "0a", "-a", "aB", "a b", "a_", "a\n", "a\x00", "é", "a\xff", " a", "a{", "a`", "`a", "a/", "a:"} {
		all[fmt.Sprintf("the place %q", name)] = changed(func(s *api.KeeperSetup) { s.Places[1] = name })
		all[fmt.Sprintf("the observer %q", name)] = changed(func(s *api.KeeperSetup) { s.People[0] = name })
		all[fmt.Sprintf("the station %q", name)] = changed(func(s *api.KeeperSetup) { s.Paths[0] = name })
		all[fmt.Sprintf("the clock %q", name)] = changed(func(s *api.KeeperSetup) { s.Clocks[0] = name })
	}
	return all
}

// P11.1, P11.4: which setups are valid; all functions return the error of one that is not first, and nothing with it.
func TestSetups(t *testing.T) {
	for name, s := range wrongSetups() {
		if e := keeper.Check(s); e != api.ErrKeeper {
			t.Errorf("Check: %s: %d", name, e)
		}
		if d, e := keeper.New(s); d != nil || e != api.ErrKeeper {
			t.Errorf("New: %s: %v, %d", name, d, e)
		}
		for _, file := range []string{"", "tick 1\n", "x", "tick 1\nx\n", strings.Repeat("\n", 65537)} {
			if d, at, e := keeper.Open(s, file); d != nil || at != 0 || e != api.ErrKeeper {
				t.Errorf("Open: %s: %v, %d, %d", name, d, at, e)
			}
		}
	}
	valid := append(setups(), changed(func(s *api.KeeperSetup) { s.Each = 60 }), changed(func(s *api.KeeperSetup) { s.Places = []string{"z", "az-09-" + strings.Repeat("-", 10)} }))
	valid = append(valid, changed(func(s *api.KeeperSetup) { // nil and empty lists are the same
		s.Stars.Looks, s.Slaves.Events, s.Prices.Hours = []api.StarLook{}, []api.SlaveEvent{}, [][]api.CallerCall{}
	}), changed(func(s *api.KeeperSetup) { // one name for one of each kind
		s.Places[0], s.People[0], s.Paths[0], s.Clocks[0] = "ada", "ada", "ada", "ada"
	}))
	for i, s := range valid {
		if e := keeper.Check(s); e != api.OK {
			t.Errorf("Check of the setup %d: %d", i, e)
		}
		if d := made(t, s); all(d) != newModel(s).all() {
			t.Errorf("a new desk of the setup %d: %s", i, all(d))
		}
	}
}

// P11.1: a nil desk, and others that neither New nor Open returned.
func TestNoDesk(t *testing.T) {
	d := made(t, given())
	does(t, d, "tick 7", "star ada 0 40 5", "send 4 1", "call hall 20 2", "hour 1", "call hall 20 2")
	before, other := all(d), *d
	for name, x := range map[string]*keeper.Desk{"nil": nil, "zero": {}, "a copy": &other} {
		for _, l := range []string{"time", "tick 8", "", "tick x", "local oslo", "tick 0"} {
			play(t, x, says{l, "", api.ErrNil})
		}
		places, house := x.Got()
		if x.Tick() != 0 || x.File() != "" || len(places)+house+len(x.Looks())+len(x.Events())+len(x.Calls())+len(x.Journal()) != 0 {
			t.Errorf("%s: %s", name, all(x))
		}
	}
	if all(d) != before {
		t.Errorf("the desk is another one: %s", all(d))
	}
}

// P11.2, P11.3: the chapter's examples.
func TestExamples(t *testing.T) {
	d := made(t, given())
	play(t, d, says{"time", "0 0 0 0", 0}, says{"local hall", "0 1 1 0", 0}, says{"local wick", "-1 2 3 0", 0}, says{"when hall 0 2 1 0", "40 60", 0}, says{"when hall 0 0 0 0", "-", 0})
	play(t, d, says{"tick 116", "", 0}, says{"time", "0 2 3 6", 0}, says{"next", "120", 0}, says{"local hall", "1 0 2 6", 0}, says{"tick 100", "", api.ErrKeeperPast}, says{"sooner wick", "17 2", 0}, says{"sooner oslo", "", api.ErrKeeperUnknown})
	play(t, d, says{"star ada 0 40 5", "1", 0}, says{"star ben 0 60 10", "2", 0}, says{"signal rio 1 20 5", "3", 0}, says{"star ada 2 200 5", "", api.ErrKeeperFalse}, says{"star ada 2 70 5", "4", 0}, says{"offset 0", "30 85", 0}, says{"person ada", "-40 15", 0}, says{"path rio", "30 60", 0}, says{"offset 3", "", api.ErrRange})
	play(t, d, says{"send 4 1", "1", 0}, says{"shown gate", "0 1 2", 0}, says{"lost gate", "0 1", 0}, says{"look gate 7", "", api.ErrKeeperFalse}, says{"look gate 0", "2", 0}, says{"set 5", "-1 0 0 5", 0})
	play(t, d, says{"call hall 20 2", "1", 0}, says{"call wick 0 1", "2", 0}, says{"served 1", "1", 0}, says{"fewest", "2", 0}, says{"hour 1", "3", 0}, says{"got hall", "2", 0}, says{"house", "3", 0}, says{"say", "", api.ErrNone}, says{"tick 240", "", 0}, says{"next", "", api.ErrNone})
	if l := d.Looks(); !slices.Equal(l, []api.StarLook{{Read: 40, Err: 5}, {Who: 1, Read: 60, Err: 10}, {Night: 1, Kind: 1, Read: 20, Err: 5}, {Night: 2, Read: 70, Err: 5}}) {
		t.Errorf("Looks: %v", l)
	}
	if l := d.Events(); !slices.Equal(l, []api.SlaveEvent{{Count: 4, Lost: 1}, {Kind: 2}}) {
		t.Errorf("Events: %v", l)
	}
	want := []string{"tick 116", "star ada 0 40 5", "star ben 0 60 10", "signal rio 1 20 5", "star ada 2 70 5", "send 4 1", "look gate 0", "call hall 20 2", "call wick 0 1", "hour 1", "tick 240"}
	if places, house := d.Got(); !slices.Equal(places, []int{2, 0}) || house != 3 || d.Tick() != 240 || len(d.Calls()) != 0 || !slices.Equal(d.Journal(), want) {
		t.Errorf("the desk: %s", all(d))
	}
	if x := opened(t, given(), d.File()); all(x) != all(d) || d.File() != strings.Join(want, "\n")+"\n" {
		t.Errorf("the desk of its file: %s", all(x))
	}
}

// formed are lines that have the form, one of each word.
var formed = []string{"tick 5", "star ada 0 40 5", "signal rio 1 20 5", "send 4 1", "home 4 1", "look gate 10", "call hall 20 2", "hour 1", "time", "local hall", "when hall 0 2 1 0", "next", "say", "sooner wick", "offset 0", "person ada", "path rio", "shown gate", "lost gate", "set 5", "served 1", "fewest", "got hall", "house"}

// P11.2: lines that do not have the form.
func TestForm(t *testing.T) {
	for _, l := range formed {
		d := made(t, given())
		if _, e := d.Do(l); e == api.ErrKeeperLine {
			t.Errorf("%q does not have the form", l)
		}
		before := all(d)
		tokens := strings.Split(l, " ")
		fails(t, d, api.ErrKeeperLine, l+" ", " "+l, l+" 0", l+" x", strings.ToUpper(l), "x"+l, "\t"+l, strings.Join(tokens[1:], " "))
		if last := tokens[len(tokens)-1]; len(tokens) == 1 || strings.ContainsAny(last, "0123456789") { // it is no name, which can be any token
			fails(t, d, api.ErrKeeperLine, l+"\n", l+"\r\n", l+"\x00", l+"\t")
		}
		for i := range tokens[1:] {
			fails(t, d, api.ErrKeeperLine, strings.Join(tokens[:i+1], " "), strings.Join(slices.Concat(tokens[:i+1], tokens[i+2:]), " "), strings.Join(tokens[:i+1], " ")+"  "+strings.Join(tokens[i+1:], " "), strings.Join(tokens[:i+1], " ")+"\t"+strings.Join(tokens[i+1:], " "))
		}
		for i, token := range tokens {
			if !strings.ContainsAny(token, "0123456789") {
				continue
			}
			for _, no := range []string{"", "x", "00", "01", "+1", "-0", "-", "--1", "-01", "1-", "1.0", "1e2", "0x1", "1_0", "1000000", "-1000000", "0000001", "9223372036854775808", "18446744073709551617", "٣", "1\n", "\x001", "１"} {
				fails(t, d, api.ErrKeeperLine, strings.Join(slices.Concat(tokens[:i], []string{no}, tokens[i+1:]), " "))
			}
			below := strings.Join(slices.Concat(tokens[:i], []string{"-1"}, tokens[i+1:]), " ")
			if isSigned := i == 3 && (tokens[0] == "star" || tokens[0] == "signal") || i == 2 && tokens[0] == "when"; !isSigned {
				fails(t, d, api.ErrKeeperLine, below)
			} else if _, e := d.Do("when hall -999999 999999 999999 999999"); e != api.OK {
				t.Errorf("%q: %d", below, e)
			}
		}
		if all(d) != before {
			t.Errorf("%q: lines without the form changed something: %s", l, all(d))
		}
	}
	d := made(t, given())
	fails(t, d, api.ErrKeeperLine, "", " ", "\n", "x", "timetick", "Time", "tick 999999 ", "local "+strings.Repeat("b", 195), "time"+strings.Repeat(" ", 10), strings.Repeat("time ", 1<<20))
	fails(t, d, api.ErrKeeperUnknown, "local "+strings.Repeat("b", 194), "local \n", "local hall\n", "local \xff", "local 0", "local -1", "local HALL", "local \t", "look gate\n 0", "when oslo -999999 999999 999999 999999", "look oslo 999999")
	fails(t, d, api.ErrKeeperPast, "tick 999999")
	fails(t, d, api.ErrRange, "star ada 0 999999 0", "star ada 0 -999999 0", "hour 999999")
}

// P11.2: ticks that go on, up to the last one.
func TestTick(t *testing.T) {
	d := made(t, given())
	play(t, d, says{"tick 0", "", 0}, says{"tick 59", "", 0}, says{"tick 59", "", 0})
	fails(t, d, api.ErrKeeperPast, "tick 58", "tick 0", "tick 241", "tick 999999")
	play(t, d, says{"time", "0 1 1 9", 0}, says{"local hall", "0 2 2 9", 0}, says{"tick 60", "", 0}, says{"local hall", "0 2 1 0", 0}, says{"tick 120", "", 0}, says{"time", "0 2 3 10", 0}, says{"local hall", "1 0 2 10", 0}, says{"tick 240", "", 0}, says{"time", "1 2 3 9", 0}, says{"tick 240", "", 0})
	if l := d.Journal(); !slices.Equal(l, []string{"tick 0", "tick 59", "tick 59", "tick 60", "tick 120", "tick 240", "tick 240"}) || d.Tick() != 240 {
		t.Errorf("%q, %d", l, d.Tick())
	}
}

// P11.2: looks, with their errors in order: of each line all later ones apply, too.
func TestLooks(t *testing.T) {
	d := made(t, given())
	fails(t, d, api.ErrKeeperUnknown, "star eve 3 30001 2001", "star rio 0 0 0", "signal ada 3 0 0", "signal oslo 0 0 0", "star hall 0 0 0", "star gate 0 0 0")
	fails(t, d, api.ErrRange, "star ada 3 0 0", "star ada 0 30001 2000", "star ada 0 -30001 2000", "star ada 0 0 2001", "signal rio 3 0 0", "signal rio 0 30001 0", "signal rio 0 -30001 0", "signal rio 0 0 2001", "star ada 999999 0 0")
	fails(t, d, api.ErrKeeperFalse, "star ada 0 151 0", "star ada 0 -51 0", "star ada 0 30000 2000", "star ada 0 -30000 2000", "signal rio 0 71 0", "signal rio 0 -61 0", "star ada 2 191 0", "star ben 2 -41 0")
	play(t, d, says{"star ada 0 150 0", "1", 0}, says{"offset 0", "100 100", 0}, says{"person ada", "50 50", 0}, says{"offset 2", "80 140", 0})
	fails(t, d, api.ErrKeeperFalse, "star ada 0 149 0", "star ben 0 79 0", "star ada 1 139 0", "signal rio 2 19 0")
	play(t, d, says{"star ada 0 149 1", "2", 0}, says{"star ada 0 149 1", "3", 0}, says{"signal rio 2 20 0", "4", 0}, says{"path rio", "60 60", 0}, says{"offset 1", "90 90", 0}, says{"star ben 2 100 2000", "5", 0})
	far := made(t, broad())
	play(t, far, says{"star a 7 30000 999", "", api.ErrKeeperFalse}, says{"star a 7 30000 1000", "1", 0}, says{"offset 7", "27000 27000", 0}, says{"offset 0", "20000 20000", 0}, says{"signal d0 7 -30000 2000", "", api.ErrKeeperFalse})
	does(t, made(t, broad()), "signal d0 7 -30000 2000")
	for range 5 {
		does(t, d, "star ben 1 90 20")
	}
	fails(t, d, api.ErrFull, "star ada 0 0 0", "star ada 0 150 0", "signal rio 2 20 0", "signal rio 0 -9999 0")
	fails(t, d, api.ErrRange, "star ada 3 0 0", "signal rio 0 0 2001")
	fails(t, d, api.ErrKeeperUnknown, "star rio 0 0 0", "signal ada 3 0 0")
	if len(d.Looks()) != 10 || len(d.Journal()) != 10 {
		t.Errorf("%s", all(d))
	}
}

// P11.2: pulses whose signs go on, home pulses, and looks at slave clocks.
func TestEvents(t *testing.T) {
	d := made(t, given())
	fails(t, d, api.ErrRange, "send 61 0", "send 0 4", "home 61 0", "home 0 4", "send 61 4", "look gate 12", "look gate 999999", "set 12", "set 999999")
	fails(t, d, api.ErrKeeperUnknown, "look door 12", "look ada 0", "shown door", "lost door", "shown hall")
	play(t, d, says{"look gate 10", "1", 0}, says{"look gate 11", "", api.ErrKeeperFalse}, says{"send 3 0", "2", 0}, says{"shown gate", "1", 0}, says{"send 0 3", "3", 0}, says{"home 3 0", "4", 0}, says{"shown gate", "4", 0}, says{"send 2 0", "5", 0}, says{"shown gate", "6", 0}, says{"send 60 3", "6", 0}, says{"send 1 0", "7", 0}, says{"lost gate", "0 3", 0}, says{"home 60 3", "8", 0})
	want := []api.SlaveEvent{{Kind: 2, Shown: 10}, {First: 0, Count: 3}, {First: 1, Lost: 3}, {Kind: 1, Count: 3}, {First: 1, Count: 2}, {First: 1, Count: 60, Lost: 3}, {First: 1, Count: 1}, {Kind: 1, Count: 60, Lost: 3}}
	if l := d.Events(); !slices.Equal(l, want) {
		t.Errorf("Events: %v", l)
	}
	play(t, d, says{"shown gate", "0", 0}, says{"look gate 0", "9", 0}, says{"set 3", "-1 0 0 3", 0}, says{"look gate 0", "10", 0})
	fails(t, d, api.ErrFull, "send 1 0", "home 60 3", "look gate 0", "look gate 3")
	fails(t, d, api.ErrRange, "send 61 0", "home 0 4", "look gate 12")
	fails(t, d, api.ErrKeeperUnknown, "look door 12")
	if x := opened(t, given(), d.File()); all(x) != all(d) {
		t.Errorf("the desk of its file: %s", all(x))
	}
	several := made(t, broad())
	does(t, several, "send 5 3", "look d0 16", "look a 4", "look b-2- 2") // each may have lost others
	play(t, several, says{"lost d0", "1 1", 0}, says{"lost a", "0 1", 0}, says{"shown " + strings.Repeat("z", 16), "0 1 2 3 23", 0}, says{"look a 3", "", api.ErrKeeperFalse}, says{"look d0 17", "", api.ErrKeeperFalse})
}

// P11.2: calls, hours, and what is paid.
func TestCalls(t *testing.T) {
	d := made(t, days())
	fails(t, d, api.ErrKeeperUnknown, "call oslo 3601 6", "call ada 0 1", "got oslo", "got ada")
	fails(t, d, api.ErrRange, "call hall 3601 1", "call hall 0 0", "call hall 0 6", "hour 0", "hour 21", "served 0", "served 21", "hour 999999")
	play(t, d, says{"served 20", "-", 0}, says{"fewest", "1", 0}, says{"hour 20", "0", 0}, says{"tick 100", "", 0}, says{"call wick 3600 5", "1", 0}, says{"tick 3599", "", 0}, says{"call hall 0 1", "2", 0}, says{"tick 3600", "", 0})
	fails(t, d, api.ErrRange, "call hall 0 1", "call hall 3600 5")
	fails(t, d, api.ErrKeeperUnknown, "call oslo 0 1")
	play(t, d, says{"hour 1", "9", 0}, says{"got wick", "2", 0}, says{"got hall", "2", 0}, says{"house", "9", 0}, says{"call hall 0 1", "1", 0}, says{"tick 7199", "", 0}, says{"call hall 0 1", "2", 0}, says{"tick 7200", "", 0}, says{"call hall 0 1", "", api.ErrRange})
	if l := d.Calls(); !slices.Equal(l, []api.CallerCall{{At: 0, Hear: 1}, {At: 3599, Hear: 1}}) {
		t.Errorf("Calls: %v", l)
	}
	play(t, d, says{"served 1", "-", 0}, says{"hour 20", "6", 0}, says{"hour 1", "0", 0}, says{"house", "15", 0}, says{"got hall", "6", 0})
	for i := range 12 {
		play(t, d, says{"call wick 5 1", fmt.Sprint(i + 1), 0})
	}
	play(t, d, says{"call wick 5 1", "", api.ErrFull}, says{"call wick 3601 1", "", api.ErrRange}, says{"call oslo 5 1", "", api.ErrKeeperUnknown}, says{"served 10", "10 11", 0}, says{"fewest", "12", 0}, says{"served 12", "-", 0}, says{"hour 10", "40", 0}, says{"got wick", "12", 0}, says{"house", "55", 0}, says{"fewest", "1", 0})
}

// P11.2, P11.10: announcements, also of a second that a decree puts in, and the end of the calendar.
func TestAnnouncements(t *testing.T) {
	d := made(t, broad())
	play(t, d, says{"next", "3", 0}, says{"say", "3 270", 0}, says{"tick 2", "", 0}, says{"next", "3", 0}, says{"say", "3 270", 0}, says{"tick 22", "", 0}, says{"time", "0 1 1 4", 0}, says{"next", "23", 0}, says{"tick 23", "", 0}, says{"time", "1 0 0 0", 0}, says{"tick 46", "", 0}, says{"time", "1 1 1 5", 0}, says{"next", "47", 0}, says{"tick 47", "", 0}, says{"time", "1 1 1 6", 0}, says{"next", "48", 0}, says{"tick 69", "", 0}, says{"next", "", api.ErrNone}, says{"say", "", api.ErrNone}, says{"tick 71", "", 0}, says{"next", "", api.ErrNone})
	long := made(t, days())
	play(t, long, says{"next", "60", 0}, says{"say", "", api.ErrNone}, says{"tick 86399", "", 0}, says{"next", "86400", 0}, says{"tick 86400", "", 0}, says{"time", "0 23 59 60", 0}, says{"next", "86401", 0}, says{"tick 863939", "", 0}, says{"next", "863941", 0}, says{"tick 863999", "", 0}, says{"next", "", api.ErrNone}, says{"local hall", "8 23 59 58", 0})
	spoken := changed(func(s *api.KeeperSetup) {
		s.Calendar, s.Towns = api.DialCalendar{Hours: 2, Minutes: 60, Seconds: 60, Days: 1}, []api.DialTown{{}, {}}
	})
	play(t, made(t, spoken), says{"say", "", api.ErrNone}, says{"tick 3720", "", 0}, says{"say", "2 372464", 0}, says{"tick 3724", "", 0}, says{"say", "2 372464", 0}, says{"tick 3725", "", 0}, says{"next", "3730", 0}, says{"say", "", api.ErrNone})
}

// P11.2: exchanges that cannot be reached, or have no route.
func TestSooner(t *testing.T) {
	d := made(t, broad())
	play(t, d, says{"sooner a", "20 20", 0}, says{"sooner " + strings.Repeat("z", 16), "17 13", 0}, says{"sooner b-2-", "21 9", 0}, says{"sooner d0", "", api.ErrNone}, says{"sooner d1", "", api.ErrKeeperUnknown})
	play(t, made(t, bare()), says{"sooner a", "", api.ErrNone}, says{"sooner b", "", api.ErrKeeperUnknown})
}

// P11.2, P11.4: a journal that is full: ErrFull comes before all errors but that of the form, and lines that ask are still answered.
func TestFull(t *testing.T) {
	d := made(t, given())
	for range 299 {
		does(t, d, "tick 0")
	}
	does(t, d, "tick 1")
	before := all(d)
	fails(t, d, api.ErrFull, "tick 1", "tick 2", "tick 0", "star eve 9 0 0", "signal eve 9 0 0", "send 61 0", "home 61 0", "look door 99", "call oslo 0 0", "hour 0", "hour 1")
	fails(t, d, api.ErrKeeperLine, "tick x", "tick", "hour 01", "star ada 0 0", "")
	fails(t, d, api.ErrKeeperUnknown, "local oslo", "got oslo")
	play(t, d, says{"time", "0 0 0 1", 0}, says{"offset 9", "", api.ErrRange}, says{"next", "5", 0})
	if all(d) != before || len(d.Journal()) != 300 {
		t.Errorf("lines changed a full journal: %s", all(d))
	}
	if x := opened(t, given(), d.File()); all(x) != before {
		t.Errorf("the desk of its file: %s", all(x))
	}
	for _, l := range []string{"tick 0", "tick 1", "star eve 0 0 0"} {
		if x, at, e := keeper.Open(given(), d.File()+l+"\n"); x != nil || at != 300 || e != api.ErrFull {
			t.Errorf("Open of 301 lines: %v, %d, %d", x, at, e)
		}
	}
	if x, at, e := keeper.Open(given(), d.File()+"time\n"); x != nil || at != 300 || e != api.ErrKeeperLine {
		t.Errorf("Open of 300 lines, and one that asks: %v, %d, %d", x, at, e)
	}
}

// P11.4: files that cannot be opened.
func TestOpen(t *testing.T) {
	for i, x := range []struct {
		file string
		at   int
		e    api.Errno
	}{
		{"", 0, api.OK}, {"tick 5\n", 1, api.OK}, {"tick 5\ntick 5\ntick 6\n", 3, api.OK},
		{"tick 5", 0, api.ErrForm}, {"x", 0, api.ErrForm}, {"tick 5\ntick 4", 0, api.ErrForm}, {"\ntick 5", 0, api.ErrForm}, {"tick 5\n\r", 0, api.ErrForm}, {strings.Repeat("x", 65536), 0, api.ErrForm}, {strings.Repeat("x", 65537), 0, api.ErrLong}, {strings.Repeat("\n", 65537), 0, api.ErrLong}, {strings.Repeat("tick 0\n", 10000), 0, api.ErrLong},
		{"\n", 0, api.ErrKeeperLine}, {"\n\n", 0, api.ErrKeeperLine}, {"\ntick 5\n", 0, api.ErrKeeperLine}, {"tick 5\n\n", 1, api.ErrKeeperLine}, {"tick 5\r\n", 0, api.ErrKeeperLine}, {"tick 5\n tick 6\n", 1, api.ErrKeeperLine}, {strings.Repeat("\n", 65536), 0, api.ErrKeeperLine}, {"tick 5\n" + strings.Repeat("x", 65528) + "\n", 1, api.ErrKeeperLine},
		{"time\n", 0, api.ErrKeeperLine}, {"tick 5\ntime\ntick 4\n", 1, api.ErrKeeperLine}, {"tick 5\nlocal oslo\n", 1, api.ErrKeeperLine}, {"tick 5\ntick 6\noffset 9\n", 2, api.ErrKeeperLine}, {"tick 5\nserved 0\n", 1, api.ErrKeeperLine}, {"next\n", 0, api.ErrKeeperLine}, {"house\n", 0, api.ErrKeeperLine},
		{"tick 5\ntick 4\ntime\n", 1, api.ErrKeeperPast}, {"star ada 0 40 5\nstar ada 0 60 5\n", 1, api.ErrKeeperFalse}, {"look gate 9\n", 0, api.ErrKeeperFalse}, {"call oslo 0 0\n", 0, api.ErrKeeperUnknown}, {"hour 1\nhour 0\n", 1, api.ErrRange}, {strings.Repeat("send 0 0\n", 11), 10, api.ErrFull}, {strings.Repeat("tick 0\n", 300), 300, api.OK}, {strings.Repeat("tick 0\n", 9362), 300, api.ErrFull},
	} {
		d, at, e := keeper.Open(given(), x.file)
		if (d != nil) != (x.e == api.OK) || at != x.at || e != x.e {
			t.Errorf("Open %d: %v, %d, %d instead of %d, %d", i, d, at, e, x.at, x.e)
		}
		if d != nil && d.File() != x.file {
			t.Errorf("Open %d: File: %q", i, d.File())
		}
	}
}
