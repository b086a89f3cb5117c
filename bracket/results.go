package bracket

import (
	"cmp"
	"iter"
	"slices"

	"nock/api"
)

// results are some of the results that are told: the bit of each of them is set.
type results int

// all returns all results that are told.
func (b book) all() results {
	return 1<<len(b.Results) - 1
}

// contains says whether some results are all among these.
func (r results) contains(some results) bool {
	return r&some == some
}

// list returns the indexes of results, ascending.
func (r results) list() []int {
	var list []int
	for i := range api.MaxBracketResults {
		if r.contains(1 << i) {
			list = append(list, i)
		}
	}
	return list
}

// choice says which of two lists of results is chosen: the shorter one, or the longer one.
type choice int

// Which list is chosen.
const (
	shortest choice = 1
	longest  choice = -1
)

// before says whether a list is chosen before another one: of two that are as long it is the lesser one.
func (c choice) before(a, b []int) bool {
	return cmp.Or(int(c)*cmp.Compare(len(a), len(b)), slices.Compare(a, b)) < 0
}

// view is a truth, and the results with which it agrees.
type view struct {
	winners
	agrees results
}

// sight is a result, and the truths that agree with it.
type sight struct {
	result int
	truths []winners
}

// agreeing returns those of all truths that agree with a result.
func (b book) agreeing(result int, t tree, all []winners) []winners {
	r := b.Results[result]
	s := sides{r.One, r.Two}
	winner := s.one
	if _, _, side, _ := Score(b.Sets, r.Sets, r.Offs); side == sideTwo {
		winner = s.two
	}
	var truths []winners
	for _, w := range all {
		if t.sidesOf(r.Match, w) == s && w[r.Match] == winner {
			truths = append(truths, w)
		}
	}
	return truths
}

// viewTruths returns all truths, in order, and the results with which each of them agrees.
func (b book) viewTruths(t tree) []view {
	all := slices.Collect(t.truths())
	found := make(chan sight)
	for i := range b.Results {
		go func() {
			found <- sight{i, b.agreeing(i, t, all)}
		}()
	}
	seen := make(map[winners]results)
	for range b.Results {
		x := <-found
		for _, w := range x.truths {
			seen[w] |= 1 << x.result
		}
	}
	var views []view
	for _, w := range all {
		views = append(views, view{w, seen[w]})
	}
	return views
}

// agreed yields the truths that agree with some results.
func (c checkedBook) agreed(some results) iter.Seq[winners] {
	return func(yield func(w winners) bool) {
		for _, v := range c.views {
			if v.agrees.contains(some) && !yield(v.winners) {
				return
			}
		}
	}
}

// fit says whether some results fit.
func (c checkedBook) fit(some results) bool {
	for range c.agreed(some) {
		return true
	}
	return false
}

// fitting returns all lists of results that fit.
func (c checkedBook) fitting() [][]int {
	var lists [][]int
	for some := range c.all() + 1 {
		if c.fit(some) {
			lists = append(lists, some.list())
		}
	}
	return lists
}

// excluding returns all lists of results that agree with no truth of a kind.
func (c checkedBook) excluding(kind func(w winners) bool) [][]int {
	var lists [][]int
search:
	for some := range c.all() + 1 {
		for w := range c.agreed(some) {
			if kind(w) {
				continue search
			}
		}
		lists = append(lists, some.list())
	}
	return lists
}

// Fits returns whether the results fit.
func Fits(b api.BracketBook) (bool, api.Foul) {
	c, f := look(b)
	if f != api.Fair {
		return false, f
	}
	return c.fit(c.all()), api.Fair
}

// Clash returns the fewest results that do not fit.
func Clash(b api.BracketBook) ([]int, api.Foul) {
	c, f := look(b)
	if f != api.Fair {
		return nil, f
	}
	anyTruth := func(w winners) bool { return true }
	return first(c.excluding(anyTruth), shortest.before), api.Fair
}

// Trust returns the most results that fit.
func Trust(b api.BracketBook) ([]int, api.Foul) {
	c, f := look(b)
	if f != api.Fair {
		return nil, f
	}
	return first(c.fitting(), longest.before), api.Fair
}

// Because returns the fewest results by which it is certain who wins the final, and who that is.
func Because(b api.BracketBook) (results []int, gold int, f api.Foul) {
	c, f := ask(b)
	if f != api.Fair {
		return nil, 0, f
	}
	gold = c.medals().Gold
	if gold == nobody {
		return nil, nobody, api.Fair
	}
	another := func(w winners) bool { return c.gold(w) != gold }
	return first(c.excluding(another), shortest.before), gold, api.Fair
}
