package court

import "remontoir/api"

// choice is which errors a stage can have, from the least one on.
type choice [2*api.CourtError + 1]bool

// list returns the errors, increasing.
func (c choice) list() []int {
	var list []int
	for i, can := range c {
		if can {
			list = append(list, i-api.CourtError)
		}
	}
	return list[:len(list):len(list)]
}

// has reports whether an error is one of them.
func (c choice) has(ahead int) bool { return c[ahead+api.CourtError] }

// answer is what is known of a question.
type answer uint8

const (
	unknown answer = iota
	no
	yes
)

func answerOf(is bool) answer {
	if is {
		return yes
	}
	return no
}

// memory is what is known of each state, by its stage, its error, and what is left.
type memory [][2*api.CourtError + 1][2 * claimed]answer

func newMemory(x *trial) memory { return make(memory, x.stages()+1) } // one more, for the state before the first stage

func (m memory) of(s state) *answer { return &m[s.stage+1][s.ahead+api.CourtError][s.left] }
