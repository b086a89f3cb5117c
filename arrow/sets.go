package arrow

import (
	"iter"
	"slices"

	"nock/api"
)

// takenShafts says of each shaft whether it is taken, so that no more set can have it.
type takenShafts [api.MaxArrows]bool

// with takes the shafts of a set, too, if all of them are free.
func (t takenShafts) with(set []int) (more takenShafts, free bool) {
	for _, shaft := range set {
		if t[shaft] {
			return takenShafts{}, false
		}
		t[shaft] = true
	}
	return t, true
}

// lists yields all lists of so many shafts, the least one first.
func (c checkedStock) lists(many int) iter.Seq[[]int] {
	return func(yield func([]int) bool) {
		var extend func(list []int, next int) bool
		extend = func(list []int, next int) bool {
			if len(list) == many {
				return yield(slices.Clone(list))
			}
			for shaft := next; shaft < len(c.Shafts); shaft++ {
				if !extend(append(list, shaft), shaft+1) {
					return false
				}
			}
			return true
		}
		extend(nil, 0)
	}
}

// sets returns all sets, the least one first.
func (c checkedStock) sets() [][]int {
	var sets [][]int
	for list := range c.lists(c.Rule.Many) {
		if c.match(list) == api.Yes {
			sets = append(sets, list)
		}
	}
	return sets
}

// setsOf returns of each shaft the sets that it is in, the least one first.
func (c checkedStock) setsOf() map[int][][]int {
	of := make(map[int][][]int)
	for _, set := range c.sets() {
		for _, shaft := range set {
			of[shaft] = append(of[shaft], set)
		}
	}
	return of
}

// share returns the best share of the shafts that were not taken before.
func (c checkedStock) share(taken takenShafts) [][]int {
	of := c.setsOf()
	var best [][]int
	var try func(shaft int, taken takenShafts, share [][]int)
	try = func(shaft int, taken takenShafts, share [][]int) {
		if shaft == len(c.Shafts) {
			if better(share, best, slices.Compare[[]int]) {
				best = slices.Clone(share)
			}
			return
		}
		if !taken[shaft] {
			for _, set := range of[shaft] {
				if more, free := taken.with(set); free {
					try(shaft+1, more, append(share, set))
				}
			}
		}
		// A shaft that is passed over counts as taken: so each set of a share begins with the shaft at which it is chosen, and sets come in order.
		taken[shaft] = true
		try(shaft+1, taken, share)
	}
	try(0, taken, nil)
	return best
}

// Sets returns all sets of a stock.
func Sets(s api.ArrowStock) ([][]int, api.Foul) {
	given := stock{s}
	if f := given.check(); f != api.Fair {
		return nil, f
	}
	return checked(given).sets(), api.Fair
}

// Fill returns the best share, and the shafts that are left.
func Fill(s api.ArrowStock) (sets [][]int, left []int, f api.Foul) {
	given := stock{s}
	if f := given.check(); f != api.Fair {
		return nil, nil, f
	}
	sets = checked(given).share(takenShafts{})
	used := slices.Concat(sets...)
	for shaft := range s.Shafts {
		if !slices.Contains(used, shaft) {
			left = append(left, shaft)
		}
	}
	return sets, left, api.Fair
}

// Without returns how many sets the most are without a shaft.
func Without(s api.ArrowStock, shaft int) (int, api.Foul) {
	given := stock{s}
	if f := firstFoul(given.check, given.hasShaft(shaft)); f != api.Fair {
		return 0, f
	}
	var taken takenShafts
	taken[shaft] = true
	return len(checked(given).share(taken)), api.Fair
}
