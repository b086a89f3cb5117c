package record

import (
	"cmp"
	"iter"
	"maps"
	"slices"

	"nock/api"
)

// truth gives each fact in doubt the number that it has.
type truth map[api.RecordFact]int

// meets says whether a need is met in a truth.
func (t truth) meets(k known) bool {
	switch x := k.(type) {
	case certain:
		return bool(x)
	case open:
		return isIn(t[x.fact], x.right)
	}
	return false
}

// stands says whether a claim stands in a truth.
func (t truth) stands(c claim) bool {
	for _, k := range c.needs {
		if !t.meets(k) {
			return false
		}
	}
	return true
}

// doubt is a fact, and the open needs that depend on it.
type doubt struct {
	fact  api.RecordFact
	needs []open
}

func compareFacts(a, b api.RecordFact) int {
	return cmp.Or(cmp.Compare(a.What, b.What), cmp.Compare(a.Index, b.Index))
}

// doubtsOf returns the facts on which it depends whether claims stand, in order.
func doubtsOf(claims []claim) []doubt {
	needs := make(map[api.RecordFact][]open)
	for _, c := range claims {
		for _, k := range c.needs {
			if x, is := k.(open); is {
				needs[x.fact] = append(needs[x.fact], x)
			}
		}
	}
	var all []doubt
	for _, fact := range slices.SortedFunc(maps.Keys(needs), compareFacts) {
		all = append(all, doubt{fact, needs[fact]})
	}
	return all
}

// areAlike says whether the same needs are met with two numbers.
func (d doubt) areAlike(one, other int) bool {
	for _, k := range d.needs {
		if isIn(one, k.right) != isIn(other, k.right) {
			return false
		}
	}
	return true
}

// numbers returns numbers that the fact can have: just one of those that are alike. What is met changes only where a span of right numbers begins, or has ended.
func (d doubt) numbers() []int {
	can := d.needs[0].can
	candidates := []int{can.Min}
	for _, k := range d.needs {
		candidates = append(candidates, k.right.Min, k.right.Max+1)
	}
	var all []int
	for _, n := range candidates {
		isAlike := func(other int) bool { return d.areAlike(n, other) }
		if isIn(n, can) && !slices.ContainsFunc(all, isAlike) {
			all = append(all, n)
		}
	}
	return all
}

// truths yields a truth for each way in which needs of claims can be met. It is the same map each time, with other numbers.
func truths(claims []claim) iter.Seq[truth] {
	doubts := doubtsOf(claims)
	numbers := make([][]int, len(doubts))
	for i, d := range doubts {
		numbers[i] = d.numbers()
	}
	return func(yield func(t truth) bool) {
		t := make(truth)
		var fill func(i int) bool
		fill = func(i int) bool {
			if i == len(doubts) {
				return yield(t)
			}
			for _, n := range numbers[i] {
				t[doubts[i].fact] = n
				if !fill(i + 1) {
					return false
				}
			}
			return true
		}
		fill(0)
	}
}
