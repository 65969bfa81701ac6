package keeper

import "remontoir/api"

// areNames reports whether there are so many names, all of them different.
func areNames(names []string, many int) bool {
	if len(names) != many {
		return false
	}
	number := numbersOf(names)
	for i, name := range names {
		if first, _ := number(name); first != i || !isName(name) {
			return false
		}
	}
	return true
}

// isName reports whether a text is a name.
func isName(text string) bool {
	if !within(len(text), 1, api.MaxName) || !isLetter(text[0]) {
		return false
	}
	for i := range len(text) {
		if !isOfName(text[i]) {
			return false
		}
	}
	return true
}

func isLetter(b byte) bool { return 'a' <= b && b <= 'z' }

func isOfName(b byte) bool { return isLetter(b) || '0' <= b && b <= '9' || b == '-' }

// numbersOf returns what tells who is meant by a name: the number of the first one of some who has it, if there is one.
func numbersOf(names []string) func(name string) (int, bool) {
	return func(name string) (int, bool) {
	names:
		for i := range len(names) {
			if names[i] != name {
				continue names
			}
			return i, true
		}
		return 0, false
	}
}
