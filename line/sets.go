package line

import (
	"slices"

	"nock/api"
)

// set is some posts, or some steps, by their indexes: the bit of each of them is set.
type set int

// maxInSet is how many posts, or steps, there can be.
const maxInSet = max(api.MaxLinePosts, api.MaxLineSteps)

// setOf returns the set of those indexes that a set can have.
func setOf(indexes []int) set {
	var s set
	for _, i := range indexes {
		if within(i, 0, maxInSet-1) {
			s |= 1 << i
		}
	}
	return s
}

// firstOnes returns the set of the indexes below a number.
func firstOnes(many int) set {
	return 1<<many - 1
}

func (s set) has(index int) bool {
	return s&(1<<index) != 0
}

// without returns the set of those that are not in another one.
func (s set) without(other set) set {
	return s &^ other
}

// list returns the indexes of a set, ascending.
func (s set) list() []int {
	var list []int
	for i := range maxInSet {
		if s.has(i) {
			list = append(list, i)
		}
	}
	return list
}

// parts returns all sets of some of these, the one with the least list first.
func (s set) parts() []set {
	var parts []set
	for some := range s + 1 {
		if some.without(s) == 0 {
			parts = append(parts, some)
		}
	}
	slices.SortFunc(parts, func(a, b set) int { return slices.Compare(a.list(), b.list()) })
	return parts
}
