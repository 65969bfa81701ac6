package voice

import (
	"iter"
	"slices"

	"remontoir/api"
)

// used tells of each piece whether it is used.
type used [api.VoicePieces]bool

// numbers returns which pieces are used.
func (u used) numbers() []int {
	var list []int
	for i, is := range u {
		if is {
			list = append(list, i)
		}
	}
	return list[:len(list):len(list)]
}

// book is a valid book, and with which of its pieces alone texts are said.
type book struct {
	api.VoiceBook
	used used
}

// newBook returns a book in the calculation of which all pieces are used, or ErrVoice.
func newBook(b api.VoiceBook) (book, api.Errno) {
	x := book{VoiceBook: b}
	if !x.hasDiscs() || !x.hasPieces() || !isSpan(b.Pause, api.VoicePause) || !isSpan(b.Rest, api.VoiceRest) {
		return book{}, api.ErrVoice
	}
	for i := range b.Pieces {
		x.used[i] = true
	}
	return x, api.OK
}

func (b book) hasDiscs() bool { return hasUpTo(b.Discs, api.VoiceDiscs) && areAll(b.Discs, isTurn) }

func (b book) hasPieces() bool {
	return hasUpTo(b.Pieces, api.VoicePieces) && areAll(b.Pieces, b.isPiece)
}

func isTurn(n int) bool { return within(n, 1, api.VoiceTurn) }

func isWord(n int) bool { return within(n, 0, api.VoiceWord) }

func (b book) isPiece(p api.VoicePiece) bool {
	return hasUpTo(p.Words, api.VoiceParts) && areAll(p.Words, isWord) && within(p.Disc, 0, len(b.Discs)-1) &&
		within(p.Begin, 0, b.turn(p)-1) && within(p.Long, 1, b.turn(p))
}

func isText(words []int) bool { return hasUpTo(words, api.VoiceWords) && areAll(words, isWord) }

// turn returns in how much time the disc of a piece turns round.
func (b book) turn(p api.VoicePiece) int { return b.Discs[p.Disc] }

// only returns the book with these of its pieces alone.
func (b book) only(u used) book {
	b.used = u
	return b
}

// begins reports whether a piece says the first words of a text.
func begins(p api.VoicePiece, text []int) bool {
	return len(p.Words) <= len(text) && slices.Equal(p.Words, text[:len(p.Words)])
}

// goingOn are the pieces that can be the next ones in a text of which this is left, with their numbers.
func (b book) goingOn(text []int) iter.Seq2[int, api.VoicePiece] {
	return func(yield func(int, api.VoicePiece) bool) {
	pieces:
		for i, p := range b.Pieces {
			if !b.used[i] || !begins(p, text) {
				continue pieces
			}
			if !yield(i, p) {
				return
			}
		}
	}
}

// cutting is into which pieces a text is cut, if it can be.
type cutting struct {
	can    bool
	pieces []int
}

// cut cuts a text into as few pieces as can be, the first ones of as few.
func (b book) cut(text []int) cutting {
	found := map[int]cutting{0: {can: true}} // by how many words are left
	var cut func(text []int) cutting
	cut = func(text []int) cutting {
		best, is := found[len(text)]
		if is {
			return best
		}
		for i, p := range b.goingOn(text) {
			rest := cut(text[len(p.Words):len(text):len(text)])
			if rest.can && (!best.can || len(rest.pieces)+1 < len(best.pieces)) {
				best = cutting{can: true, pieces: append([]int{i}, rest.pieces...)}
			}
		}
		found[len(text)] = best
		return best
	}
	return cut(text)
}

func (b book) canSay(text []int) bool { return b.cut(text).can }

// sets are all sets of pieces but that of none: the smaller ones first, and of those that are as small the one whose list comes first.
func (b book) sets() iter.Seq[used] {
	return func(yield func(used) bool) {
		var choose func(with used, from, more int) bool
		choose = func(with used, from, more int) bool {
			if more == 0 {
				return yield(with)
			}
			for i := from; i < len(b.Pieces); i++ {
				next := with
				next[i] = true
				if !choose(next, i+1, more-1) {
					return false
				}
			}
			return true
		}
		for n := range len(b.Pieces) {
			if !choose(used{}, 0, n+1) {
				return
			}
		}
	}
}

// needed returns the first set of pieces with which alone each text can be said; none, if there is no such set.
func (b book) needed(texts [][]int) used {
	for u := range b.sets() {
		if areAll(texts, b.only(u).canSay) {
			return u
		}
	}
	return used{}
}
