package bracket

import (
	"iter"
	"maps"
	"slices"

	"nock/api"
)

// known yields the truths that agree with all results.
func (c checkedBook) known() iter.Seq[winners] {
	return c.agreed(c.all())
}

// seen returns what something is in some truth.
func seen[T comparable](truths iter.Seq[winners], of func(w winners) T) map[T]bool {
	found := make(map[T]bool)
	for w := range truths {
		found[of(w)] = true
	}
	return found
}

// seeds returns the seeds that something is in some truth, ascending.
func (c checkedBook) seeds(of func(w winners) int) []int {
	return slices.Sorted(maps.Keys(seen(c.known(), of)))
}

// certain returns the seed that something is in all truths, or nobody.
func (c checkedBook) certain(of func(w winners) int) int {
	seeds := c.seeds(of)
	if len(seeds) > 1 {
		return nobody
	}
	return seeds[0]
}

func (c checkedBook) medals() api.BracketMedals {
	return api.BracketMedals{Gold: c.certain(c.gold), Silver: c.certain(c.silver), Bronze: c.certain(c.bronze)}
}

// hasResult says whether a result is about a match.
func (c checkedBook) hasResult(match int) bool {
	return slices.ContainsFunc(c.Results, func(r api.BracketResult) bool { return r.Match == match })
}

// hasSides says whether the sides of a match are the same in all truths.
func (c checkedBook) hasSides(match int) bool {
	return len(seen(c.known(), func(w winners) sides { return c.sidesOf(match, w) })) == 1
}

// Sides returns the seeds that are One of a match in some truth, and those that are Two.
func Sides(b api.BracketBook, match int) (one, two []int, f api.Foul) {
	c, f := ask(b, needMatch(match))
	if f != api.Fair {
		return nil, nil, f
	}
	one = c.seeds(func(w winners) int { return c.sidesOf(match, w).one })
	two = c.seeds(func(w winners) int { return c.sidesOf(match, w).two })
	return one, two, api.Fair
}

// Winners returns the seeds that win a match in some truth.
func Winners(b api.BracketBook, match int) ([]int, api.Foul) {
	c, f := ask(b, needMatch(match))
	if f != api.Fair {
		return nil, f
	}
	return c.seeds(func(w winners) int { return w[match] }), api.Fair
}

// Reaches returns whether a seed is in a match of a round.
func Reaches(b api.BracketBook, seed, round int) (api.Sure, api.Foul) {
	c, f := ask(b, needSeed(seed), needRound(round))
	if f != api.Fair {
		return api.Maybe, f
	}
	is := seen(c.known(), func(w winners) bool { return c.isIn(seed, round, w) })
	switch {
	case !is[false]:
		return api.Yes, api.Fair
	case !is[true]:
		return api.No, api.Fair
	}
	return api.Maybe, api.Fair
}

// Medals returns who surely wins which medal, and -1 for nobody.
func Medals(b api.BracketBook) (api.BracketMedals, api.Foul) {
	c, f := ask(b)
	if f != api.Fair {
		return api.BracketMedals{}, f
	}
	return c.medals(), api.Fair
}

// Open returns the matches whose sides are certain, and that no result is about.
func Open(b api.BracketBook) ([]int, api.Foul) {
	c, f := ask(b)
	if f != api.Fair {
		return nil, f
	}
	var open []int
	for match := range c.size() {
		if c.isShot(match) && !c.hasResult(match) && c.hasSides(match) {
			open = append(open, match)
		}
	}
	return open, api.Fair
}
