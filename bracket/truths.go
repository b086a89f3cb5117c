package bracket

import (
	"iter"

	"nock/api"
)

// winners are those of all matches, by their numbers. A bracket never has more matches than it can have seeds.
type winners [api.MaxBracketSeeds]int

// truths yields all truths of a bracket, whatever is told of it. The side of a match that is not shot, if there is one, stands there as its winner.
func (t tree) truths() iter.Seq[winners] {
	return func(yield func(w winners) bool) {
		var play func(match int, w winners) bool
		play = func(match int, w winners) bool {
			if match == t.size() {
				return yield(w)
			}
			s := t.sidesOf(match, w)
			if !t.isShot(match) {
				w[match] = max(s.one, s.two)
				return play(match+1, w)
			}
			for _, winner := range []int{s.one, s.two} {
				w[match] = winner
				if !play(match+1, w) {
					return false
				}
			}
			return true
		}
		play(0, winners{})
	}
}

// canHave says whether a match has some sides in one of all truths. Each side can be beside any other one, since they come from different slots.
func (t tree) canHave(match int, s sides) bool {
	for w := range t.truths() {
		if t.sidesOf(match, w) == s {
			return true
		}
	}
	return false
}

// isIn says whether a seed is in a match of a round.
func (t tree) isIn(seed, round int, w winners) bool {
	for i := range t.matchesOf(round) {
		s := t.sidesOf(t.start(round)+i, w)
		if s.one == seed || s.two == seed {
			return true
		}
	}
	return false
}

// gold returns who wins the final.
func (t tree) gold(w winners) int {
	return w[t.final()]
}

// silver returns who loses the final.
func (t tree) silver(w winners) int {
	return t.loser(t.final(), w)
}

// bronze returns who wins the third match. If it is not shot, the only loser before the final stands there as its winner.
func (t tree) bronze(w winners) int {
	return w[t.third()]
}
