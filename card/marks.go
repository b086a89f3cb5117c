package card

import (
	"cmp"
	"slices"

	"nock/api"
)

// innerValue is the value of an inner ten.
const innerValue = 10

// marks are the marks of all arrows of an end. Arrows that there are not have a miss, which adds nothing, and stands last among the highest.
type marks [api.MaxCardArrows]int

// marksOf returns the marks of a list.
func marksOf(some []int) marks {
	var m marks
	copy(m[:], some)
	return m
}

// highestFirst returns the same marks, the highest first.
func (m marks) highestFirst() marks {
	slices.SortFunc(m[:], descending)
	return m
}

// of returns the marks of some arrows, and misses for the others.
func (m marks) of(arrows []int) marks {
	var some marks
	for _, arrow := range arrows {
		some[arrow] = m[arrow]
	}
	return some
}

func (m marks) total() api.FaceTotal {
	var sum api.FaceTotal
	for _, mark := range m {
		sum.Value += min(mark, innerValue)
		if mark == api.MaxCardMark {
			sum.Inner++
		}
	}
	return sum
}

func descending(a, b int) int {
	return cmp.Compare(b, a)
}

// compareTotals puts the least total first.
func compareTotals(a, b api.FaceTotal) int {
	return cmp.Or(cmp.Compare(a.Value, b.Value), cmp.Compare(a.Inner, b.Inner))
}

// checkElements finds the foul of the first element that is not a mark, or may not follow the one before it.
func checkElements(some []int, follows func(before, next int) bool) api.Foul {
	for i, mark := range some {
		if !within(mark, 0, api.MaxCardMark) {
			return api.OffLimits
		}
		if i > 0 && !follows(some[i-1], mark) {
			return api.OutOfOrder
		}
	}
	return api.Fair
}

// checkSeen finds the foul of marks that an arrow can have.
func checkSeen(some []int) api.Foul {
	if !within(len(some), 1, api.MaxCardMarks) {
		return api.BadCount
	}
	return checkElements(some, func(before, next int) bool { return next > before })
}

// checkHighestFirst finds the foul of the elements of a list that is told.
func checkHighestFirst(some []int) api.Foul {
	return checkElements(some, func(before, next int) bool { return next <= before })
}

// oftener returns the marks that list a has more often than list b, as many times as that, the highest first.
func oftener(a, b []int) []int {
	var many [api.MaxCardMark + 1]int
	for _, mark := range a {
		many[mark]++
	}
	for _, mark := range b {
		many[mark]--
	}
	var more []int
	for mark, times := range many {
		for range max(times, 0) {
			more = append(more, mark)
		}
	}
	slices.SortFunc(more, descending)
	return more
}

// Changes returns the fewest changes that make the marks of one list those of another one.
func Changes(a, b []int) ([]api.CardChange, api.Foul) {
	if len(a) > api.MaxCardArrows || len(b) != len(a) {
		return nil, api.BadCount
	}
	for _, some := range [][]int{a, b} {
		if f := checkHighestFirst(some); f != api.Fair {
			return nil, f
		}
	}
	// As both lists are as long, each mark that one has more often stands opposite one of the other.
	from, to := oftener(a, b), oftener(b, a)
	var changes []api.CardChange
	for i, mark := range from {
		changes = append(changes, api.CardChange{From: mark, To: to[i]})
	}
	return changes, api.Fair
}
