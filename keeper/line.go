package keeper

import (
	"strconv"
	"strings"

	"remontoir/api"
)

const (
	blank      = " "  // between two tokens
	lineEnd    = "\n" // behind a line of a file
	none       = "-"  // an answer without numbers
	mostNumber = 999999
)

// kind is a kind of lines: how the tokens behind the first one are written, a letter of the chapter's tables for each, and what such a line does, or answers.
type kind struct {
	form string
	does func(*work) string
}

// changing are the lines that change something, by their first token.
func changing() map[string]kind {
	return map[string]kind{
		"tick":   {"N", (*work).doTick},
		"star":   {"WNZM", (*work).doStar},
		"signal": {"WNZM", (*work).doSignal},
		"send":   {"NM", (*work).doSend},
		"home":   {"NM", (*work).doHome},
		"look":   {"CN", (*work).doLook},
		"call":   {"PNM", (*work).doCall},
		"hour":   {"N", (*work).doHour},
	}
}

// asking are the lines that ask, by their first token.
func asking() map[string]kind {
	return map[string]kind{
		"time":   {"", (*work).askTime},
		"local":  {"P", (*work).askLocal},
		"when":   {"PZNNN", (*work).askWhen},
		"next":   {"", (*work).askNext},
		"say":    {"", (*work).askSay},
		"sooner": {"P", (*work).askSooner},
		"offset": {"N", (*work).askOffset},
		"person": {"W", (*work).askPerson},
		"path":   {"W", (*work).askPath},
		"shown":  {"C", (*work).askShown},
		"lost":   {"C", (*work).askLost},
		"set":    {"N", (*work).askSet},
		"served": {"N", (*work).askServed},
		"fewest": {"", (*work).askFewest},
		"got":    {"P", (*work).askGot},
		"house":  {"", (*work).askHouse},
	}
}

// work is a line that is done, with what the desk has then.
type work struct {
	kept
	kind
	asks    bool
	name    string
	numbers []int
}

// failure is the error with which a line is left.
type failure struct{ code api.Errno }

// demand leaves a line with an error unless something is so.
func demand(is bool, e api.Errno) {
	if !is {
		panic(failure{e})
	}
}

// errorOf returns the error with which a line was left, by what was recovered then.
func errorOf(recovered any) api.Errno {
	switch x := recovered.(type) {
	case nil:
		return api.OK
	case failure:
		return x.code
	}
	return api.ErrKeeper // nothing else panics, and a line that did could not be right
}

// do does a line; one that asks only if that is allowed. What it changes is kept only if nothing was wrong up to the end.
func (d *Desk) do(line string, mayAsk bool) (said string, e api.Errno) {
	defer func() { e = errorOf(recover()) }()
	w := newWork(d.kept, line)
	if w.asks {
		demand(mayAsk, api.ErrKeeperLine)
		return w.does(w), api.OK
	}
	demand(len(d.journal) < api.KeeperJournal, api.ErrFull)
	said = w.does(w)
	w.journal = with(w.journal, strings.Clone(line)) // a copy, because a line can be a part of a whole file
	d.kept = w.kept
	return said, api.OK
}

// newWork returns the work of a line, or leaves it with ErrKeeperLine if it does not have the form.
func newWork(k kept, line string) *work {
	demand(len(line) <= api.KeeperLine, api.ErrKeeperLine)
	var tokens []string
	for token := range parts(line, blank) {
		demand(token != "", api.ErrKeeperLine)
		tokens = append(tokens, token)
	}
	w := newKind(k, tokens[0])
	rest := tokens[1:]
	demand(len(rest) == len(w.form), api.ErrKeeperLine)
	for i, token := range rest {
		w.read(w.form[i], token)
	}
	return w
}

// newKind returns the work of a line with this first token, of which nothing else is read yet, or leaves it with ErrKeeperLine.
func newKind(k kept, first string) *work {
	if x, is := changing()[first]; is {
		return &work{kept: k, kind: x}
	}
	x, is := asking()[first]
	demand(is, api.ErrKeeperLine)
	return &work{kept: k, kind: x, asks: true}
}

// read reads a token that is written as a letter tells.
func (w *work) read(letter byte, token string) {
	switch letter {
	case 'N', 'M':
		w.readNumber(token, 0)
	case 'Z':
		w.readNumber(token, -mostNumber)
	default:
		w.name = token
	}
}

// readNumber reads a number that is not below another one. It has to be written just as it would be in an answer.
func (w *work) readNumber(token string, least int) {
	n, err := strconv.Atoi(token)
	demand(err == nil && within(n, least, mostNumber) && answer(n) == token, api.ErrKeeperLine)
	w.numbers = append(w.numbers, n)
}

// who returns the number of the one who is meant among these, or leaves the line.
func (w *work) who(names []string) int {
	number, is := numbersOf(names)(w.name)
	demand(is, api.ErrKeeperUnknown)
	return number
}
