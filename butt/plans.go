package butt

import (
	"cmp"
	"iter"
	"slices"
	"sync"

	"nock/api"
)

// turns returns the turns by which a session wears a layer in different ways; the least one of several that are alike.
func (c checkedBoss) turns(session int) []int {
	load := quarters(c.Sessions[session].Load)
	var turns []int
	for turn := range allQuarters {
		isAlike := func(other int) bool { return load.turned(other) == load.turned(turn) }
		if !slices.ContainsFunc(turns, isAlike) {
			turns = append(turns, turn)
		}
	}
	return turns
}

// choices returns the turns with which a draft can go on, in order. Those are left out in whose place a lesser one does as well: of a layer that is just like an earlier one (so that neither of them is in front), and by which the load is the same as by an earlier one.
func (c checkedBoss) choices(d draft) []api.ButtTurn {
	var all []api.ButtTurn
	for i, l := range d.layers {
		if slices.Contains(d.layers[:i], l) {
			continue
		}
		for _, turn := range c.turns(len(d.turns)) {
			all = append(all, api.ButtTurn{Layer: i, Turn: turn})
		}
	}
	return all
}

// plans yields the plans with which a draft can go on, the least one first. A draft that may not be goes on with none.
func (c checkedBoss) plans(d draft, may func(d draft) bool) iter.Seq[draft] {
	return func(yield func(d draft) bool) {
		if !may(d) {
			return
		}
		if len(d.turns) == len(c.Sessions) {
			yield(d)
			return
		}
		for _, t := range c.choices(d) {
			for p := range c.plans(c.then(d, t), may) {
				if !yield(p) {
					return
				}
			}
		}
	}
}

// bestFrom returns the best plan with which a draft can go on, if there is one. Since the least plan comes first, a later one is better only if its greatest wear is less: it is not if that of its beginning is no less.
func (c checkedBoss) bestFrom(begin draft) (best draft, found bool) {
	may := func(d draft) bool {
		return countSwaps(d.turns) <= c.Swaps && (!found || d.worst.Max < best.worst.Max)
	}
	for d := range c.plans(begin, may) {
		best, found = d, true
	}
	return best, found
}

func compareTurns(a, b api.ButtTurn) int {
	return cmp.Or(cmp.Compare(a.Layer, b.Layer), cmp.Compare(a.Turn, b.Turn))
}

// comparePlans says which of two plans is better: the lesser one of two that are as good.
func comparePlans(a, b draft) int {
	return cmp.Or(cmp.Compare(a.worst.Max, b.worst.Max), slices.CompareFunc(a.turns, b.turns, compareTurns))
}

// best returns the best plan. Plans with different first turns are looked at apart from each other.
func (c checkedBoss) best() draft {
	begin := c.begin()
	if len(c.Sessions) == 0 {
		return begin
	}
	var all []draft
	var lock sync.Mutex
	var firsts sync.WaitGroup
	for _, t := range c.choices(begin) {
		firsts.Go(func() {
			d, found := c.bestFrom(c.then(begin, t))
			lock.Lock()
			defer lock.Unlock()
			if found {
				all = append(all, d)
			}
		})
	}
	firsts.Wait()
	// Of two different plans one is always better, so that their order here decides nothing.
	return least(slices.Values(all), comparePlans)
}

// Best returns the plan whose greatest wear is least in its worst truth, the least one of several, and this wear.
func Best(b api.ButtBoss) (p []api.ButtTurn, worst int, f api.Foul) {
	c, f := look(b)
	if f != api.Fair {
		return nil, 0, f
	}
	d := c.best()
	return d.turns, d.worst.Max, api.Fair
}

// Swaps returns the fewest swaps with which a plan surely holds, however many are allowed.
func Swaps(b api.ButtBoss) (n int, found bool, f api.Foul) {
	c, f := look(b)
	if f != api.Fair {
		return 0, false, f
	}
	// Wear never becomes less, nor do swaps become fewer, when a draft goes on.
	may := func(d draft) bool {
		return d.worst.Max <= c.Limit && (!found || countSwaps(d.turns) < n)
	}
	for d := range c.plans(c.begin(), may) {
		n, found = countSwaps(d.turns), true
	}
	return n, found, api.Fair
}
