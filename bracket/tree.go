package bracket

import (
	"slices"

	"nock/api"
)

// nobody stands where there is no seed: in an empty slot, or at the side of a match that there is not.
const nobody = -1

// How many rounds a bracket can have.
const (
	oneRound = iota + 1
	twoRounds
	threeRounds
)

// roundsOf returns how many rounds a bracket with some seeds has.
func roundsOf(seeds int) int {
	switch {
	case seeds <= 1<<oneRound:
		return oneRound
	case seeds <= 1<<twoRounds:
		return twoRounds
	}
	return threeRounds
}

// sides are the seeds of a match.
type sides struct{ one, two int }

// tree is the matches of a bracket, by the seeds that start in its slots.
type tree struct {
	rounds int
	slots  []int
}

// treeOf returns the tree of a number of seeds that is valid.
func treeOf(seeds int) tree {
	t := tree{rounds: roundsOf(seeds), slots: []int{0}}
	for range t.rounds {
		t.slots = doubled(t.slots)
	}
	for i, seed := range t.slots {
		if seed >= seeds {
			t.slots[i] = nobody
		}
	}
	return t
}

// doubled returns twice as many slots: beside each seed stands the one whose index has the same sum with its own as in all other pairs.
func doubled(slots []int) []int {
	var more []int
	for _, seed := range slots {
		more = append(more, seed, 2*len(slots)-1-seed)
	}
	return more
}

func (t tree) size() int {
	return len(t.slots)
}

func (t tree) final() int {
	return t.size() - 2
}

// third returns the number that the third match has, if there is one.
func (t tree) third() int {
	return t.size() - 1
}

// start returns the number of the first match of a round.
func (t tree) start(round int) int {
	return t.size() - t.size()>>round
}

// matchesOf returns how many matches a round has.
func (t tree) matchesOf(round int) int {
	return t.size() >> (round + 1)
}

// semifinals returns the matches of the round before the final, if there is such a round.
func (t tree) semifinals() []int {
	if t.rounds < twoRounds {
		return nil
	}
	return []int{t.final() - 2, t.final() - 1}
}

// isShot says whether a number is that of a match that is shot.
func (t tree) isShot(match int) bool {
	switch {
	case !within(match, 0, t.third()):
		return false
	case match == t.third():
		semifinals := t.semifinals()
		return len(semifinals) > 0 && t.isShot(semifinals[0]) && t.isShot(semifinals[1])
	case match < t.matchesOf(0):
		return !slices.Contains(t.slots[2*match:2*match+2], nobody)
	}
	return true
}

// sidesOf returns the sides of a match, which follow from the winners before it.
func (t tree) sidesOf(match int, w winners) sides {
	switch {
	case match < t.matchesOf(0):
		return sides{t.slots[2*match], t.slots[2*match+1]}
	case match < t.third():
		one := 2 * (match - t.matchesOf(0))
		return sides{w[one], w[one+1]}
	}
	if semifinals := t.semifinals(); len(semifinals) > 0 {
		return sides{t.loser(semifinals[0], w), t.loser(semifinals[1], w)}
	}
	return sides{nobody, nobody}
}

// loser returns the side of a match that did not win it: nobody, if the match is not shot.
func (t tree) loser(match int, w winners) int {
	s := t.sidesOf(match, w)
	if w[match] == s.one {
		return s.two
	}
	return s.one
}

// meet returns the match in which two seeds can meet.
func (t tree) meet(one, two int) int {
	a, b := slices.Index(t.slots, one)/2, slices.Index(t.slots, two)/2
	round := 0
	for a != b {
		a, b, round = a/2, b/2, round+1
	}
	return t.start(round) + a
}

// Slots returns the seed of each slot, and -1 for an empty one.
func Slots(seeds int) ([]int, api.Foul) {
	if !within(seeds, 2, api.MaxBracketSeeds) {
		return nil, api.OffLimits
	}
	return treeOf(seeds).slots, api.Fair
}

// Meet returns the match, not the third one, in which two seeds can meet.
func Meet(seeds, one, two int) (int, api.Foul) {
	switch {
	case !within(seeds, 2, api.MaxBracketSeeds):
		return 0, api.OffLimits
	case !within(one, 0, seeds-1) || !within(two, 0, seeds-1):
		return 0, api.Unknown
	case one == two:
		return 0, api.Circular
	}
	return treeOf(seeds).meet(one, two), api.Fair
}
