package card

import (
	"iter"
	"slices"

	"nock/api"
)

// sets yields the lists of some of the first arrows that have a size, the least one first.
func sets(arrows, size int) iter.Seq[[]int] {
	return func(yield func([]int) bool) {
		var add func(set []int, next int) bool
		add = func(set []int, next int) bool {
			if len(set) == size {
				return yield(slices.Clone(set))
			}
			for arrow := next; arrow < arrows; arrow++ {
				if !add(append(set, arrow), arrow+1) {
					return false
				}
			}
			return true
		}
		add(nil, 0)
	}
}

// decided says whether one total is left, whatever marks some arrows are found to have.
func (e end) decided(arrows []int) bool {
	totals := make(map[marks]api.FaceTotal)
	for m := range e.truths() {
		found, total := m.of(arrows), m.total()
		if earlier, has := totals[found]; has && earlier != total {
			return false
		}
		totals[found] = total
	}
	return true
}

// decide returns the fewest arrows that decide the total.
func (e end) decide() []int {
	var fewest []int
sizes:
	for size := range len(e.Marks) + 1 {
		for set := range sets(len(e.Marks), size) {
			if e.decided(set) {
				fewest = set
				break sizes
			}
		}
	}
	return fewest
}

// Decide returns the fewest arrows of an end such that truths that give them the same marks have the same total.
func Decide(c api.CardSheet, end int) ([]int, api.Foul) {
	e, f := lookAtEnd(c, end)
	if f != api.Fair {
		return nil, f
	}
	if !e.known().fits() {
		return nil, api.Against
	}
	return e.decide(), api.Fair
}
