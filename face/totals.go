package face

import (
	"cmp"
	"iter"
	"maps"
	"slices"
	"sync"

	"nock/api"
)

// allScores is the scores of all arrows of an end in a truth; those that there are not have a miss.
type allScores [api.MaxFaceArrows]api.FaceScore

// options returns the scores that an arrow can have beside those of the arrows before it.
func (c checkedEnd) options(arrow int, before allScores) []api.FaceScore {
	if c.has(arrow) {
		if source := c.source(arrow); source != arrow {
			return []api.FaceScore{before[source]}
		}
	}
	return c.scores[arrow]
}

// truths yields the scores that truths give all arrows, each combination once.
func (c checkedEnd) truths() iter.Seq[allScores] {
	return func(yield func(allScores) bool) {
		var try func(arrow int, scores allScores) bool
		try = func(arrow int, scores allScores) bool {
			if arrow == len(scores) {
				return yield(scores)
			}
			for _, s := range c.options(arrow, scores) {
				scores[arrow] = s
				if !try(arrow+1, scores) {
					return false
				}
			}
			return true
		}
		try(0, allScores{})
	}
}

// counting returns the scores of the arrows that count, and misses for the others.
func (c checkedEnd) counting(scores allScores) allScores {
	if !c.Target.Each {
		return scores
	}
	counts := scores
	for two, s := range scores {
		for one, earlier := range scores[:two] {
			if s.Spot != earlier.Spot {
				continue
			}
			if number(s) < number(earlier) {
				counts[one] = miss()
			} else {
				counts[two] = miss()
			}
		}
	}
	return counts
}

// total returns the total of an end whose arrows have some scores.
func (c checkedEnd) total(scores allScores) api.FaceTotal {
	var sum api.FaceTotal
	for _, s := range c.counting(scores) {
		sum.Value += s.Value
		if s.Inner {
			sum.Inner++
		}
	}
	return sum
}

// knowing returns the end of which is known what a hole scores.
func (c checkedEnd) knowing(hole int, s api.FaceScore) checkedEnd {
	c.scores[hole] = []api.FaceScore{s}
	return c
}

// totalSet returns the totals of all truths.
func (c checkedEnd) totalSet() map[api.FaceTotal]bool {
	set := make(map[api.FaceTotal]bool)
	for scores := range c.truths() {
		set[c.total(scores)] = true
	}
	return set
}

// totals returns the totals of all truths, in order. Each score of the first arrow is looked at on its own.
func (c checkedEnd) totals() []api.FaceTotal {
	all := make(map[api.FaceTotal]bool)
	var lock sync.Mutex
	var wait sync.WaitGroup
	for _, s := range c.scores[0] {
		wait.Go(func() {
			part := c.knowing(0, s).totalSet()
			lock.Lock()
			defer lock.Unlock()
			maps.Copy(all, part)
		})
	}
	wait.Wait()
	return ordered(all, compareTotals)
}

// compareTotals puts greater values first, then more inner ones.
func compareTotals(a, b api.FaceTotal) int {
	return cmp.Or(cmp.Compare(b.Value, a.Value), cmp.Compare(b.Inner, a.Inner))
}

// worst returns how many totals are left in the worst case once the place of a hole is known.
func (c checkedEnd) worst(hole int) int {
	most := 0
	for _, s := range c.scores[hole] {
		most = max(most, len(c.knowing(hole, s).totals()))
	}
	return most
}

// known returns the scores of some arrows, and misses for the others.
func known(scores allScores, arrows []int) allScores {
	var some allScores
	for arrow, s := range scores {
		some[arrow] = miss()
		if slices.Contains(arrows, arrow) {
			some[arrow] = s
		}
	}
	return some
}

// measure returns the fewest holes whose places decide the total. Their scores are enough: a place changes the total by its score alone.
func (c checkedEnd) measure() []int {
	holes := c.holes()
	best := holes
sets:
	for bits := range 1 << len(holes) {
		set := chosen(holes, bits)
		if !fewer(set, best) {
			continue
		}
		totals := make(map[allScores]api.FaceTotal)
		for scores := range c.truths() {
			key, total := known(scores, set), c.total(scores)
			if earlier, found := totals[key]; found && earlier != total {
				continue sets
			}
			totals[key] = total
		}
		best = set
	}
	return best
}

// chosen returns the elements of a list whose bits are set.
func chosen(list []int, bits int) []int {
	var some []int
	for i, x := range list {
		if bits&(1<<i) != 0 {
			some = append(some, x)
		}
	}
	return some
}

// fewer says whether list a is shorter than list b, or as long and less.
func fewer(a, b []int) bool {
	return cmp.Or(cmp.Compare(len(a), len(b)), slices.Compare(a, b)) < 0
}

// checkPlaces finds the foul of places of all arrows.
func (c checkedEnd) checkPlaces(at []api.FacePoint) api.Foul {
	if len(at) != len(c.Arrows) {
		return api.BadCount
	}
	for arrow, x := range c.Arrows {
		if x.Kind != api.FaceHole && at[arrow] != (api.FacePoint{}) {
			return api.OffLimits
		}
		if x.Kind == api.FaceHole && !slices.ContainsFunc(x.Boxes, func(b api.FaceBox) bool { return hasPlace(b, at[arrow]) }) {
			return api.Against
		}
	}
	return api.Fair
}

func hasPlace(b api.FaceBox, at api.FacePoint) bool {
	return within(at.X, b.X.Min, b.X.Max) && within(at.Y, b.Y.Min, b.Y.Max)
}

// Counts returns the scores of the arrows that count, and the total, if the holes are at some places.
func Counts(e api.FaceEnd, at []api.FacePoint) (scores []api.FaceScore, total api.FaceTotal, f api.Foul) {
	c, f := look(e)
	if f != api.Fair {
		return nil, api.FaceTotal{}, f
	}
	if f := c.checkPlaces(at); f != api.Fair {
		return nil, api.FaceTotal{}, f
	}
	for _, hole := range c.holes() {
		c = c.knowing(hole, c.scoreAt(hole, at[hole]))
	}
	// Now there is one truth.
	for all := range c.truths() {
		counts := c.counting(all)
		scores, total = slices.Clone(counts[:len(c.Arrows)]), c.total(all)
	}
	return scores, total, api.Fair
}

// Totals returns the totals of all truths.
func Totals(e api.FaceEnd) ([]api.FaceTotal, api.Foul) {
	c, f := look(e)
	if f != api.Fair {
		return nil, f
	}
	return c.totals(), api.Fair
}

// Measure returns the fewest holes whose places decide the total.
func Measure(e api.FaceEnd) ([]int, api.Foul) {
	c, f := look(e)
	if f != api.Fair {
		return nil, f
	}
	return c.measure(), api.Fair
}

// Ask returns the first hole whose place leaves the fewest totals in the worst case, and how many.
func Ask(e api.FaceEnd) (arrow, left int, f api.Foul) {
	c, f := look(e)
	if f != api.Fair {
		return 0, 0, f
	}
	if len(c.totals()) == 1 {
		return -1, 1, api.Fair
	}
	arrow = -1
	for _, hole := range c.holes() {
		if worst := c.worst(hole); arrow < 0 || worst < left {
			arrow, left = hole, worst
		}
	}
	return arrow, left, api.Fair
}
