package round

import (
	"cmp"
	"slices"

	"nock/api"
)

// members returns the archers of a class.
func (r checkedRound) members(class int) []int {
	var members []int
	for i, a := range r.Archers {
		if a.Class == class {
			members = append(members, i)
		}
	}
	return members
}

// standings returns what each archer has.
func (r checkedRound) standings(of func(e entrant) standing) []standing {
	var all []standing
	for i := range r.Archers {
		all = append(all, of(r.entrant(i)))
	}
	return all
}

// countAbove counts the other archers of the class who are above an archer, if the archer has own, and each of them what all have.
func (r checkedRound) countAbove(archer int, own standing, all []standing) int {
	many := 0
	for _, other := range r.members(r.Archers[archer].Class) {
		if other != archer && all[other].isAbove(own) {
			many++
		}
	}
	return many
}

// ranking is the rank of each archer, or 0 for those of other classes.
type ranking []int

// ranked is an archer whose rank is found.
type ranked struct{ archer, rank int }

// ranks returns the ranks of a class.
func (r checkedRound) ranks(class int) ranking {
	now, members := r.standings(entrant.now), r.members(class)
	found := make(chan ranked)
	for _, archer := range members {
		go func() {
			found <- ranked{archer, 1 + r.countAbove(archer, now[archer], now)}
		}()
	}
	ranks := make(ranking, len(r.Archers))
	for range members {
		x := <-found
		ranks[x.archer] = x.rank
	}
	return ranks
}

// compare compares two archers: the one with the better rank is first, of two with the same rank the one with the less index.
func (r ranking) compare(one, two int) int {
	return cmp.Or(cmp.Compare(r[one], r[two]), cmp.Compare(one, two))
}

// ties returns the archers of a class who have the same rank.
func (r checkedRound) ties(class int) [][]int {
	ranks, members := r.ranks(class), r.members(class)
	slices.SortFunc(members, ranks.compare)
	var ties [][]int
	var same []int
	collect := func() {
		if len(same) > 1 {
			ties = append(ties, same)
		}
		same = nil
	}
	for _, archer := range members {
		if len(same) > 0 && ranks[same[0]] != ranks[archer] {
			collect()
		}
		same = append(same, archer)
	}
	collect()
	return ties
}

// cut returns the round in which only the first n arrows of each archer who is not out have been shot.
func (r checkedRound) cut(n int) checkedRound {
	o := r.copied()
	for i := range o.Archers {
		a := &o.Archers[i]
		if !a.Out {
			a.Arrows = a.Arrows[:min(n, len(a.Arrows))]
		}
		// A shoot-off comes after all arrows.
		if len(a.Arrows) < r.length() {
			a.Offs = nil
		}
	}
	return checkedRound{sheet{o}}
}

// plain returns the round in which nobody is out, and there are no shoot-offs.
func (r checkedRound) plain() checkedRound {
	o := r.copied()
	for i := range o.Archers {
		o.Archers[i].Out, o.Archers[i].Offs = false, nil
	}
	return checkedRound{sheet{o}}
}

// Above returns by what two archers differ, and whether the first is above the second.
func Above(r api.Round, one, two int) (why api.RoundWhy, is bool, f api.Foul) {
	checked, f := look(r, needArcher(one), needArcher(two))
	if f != api.Fair {
		return api.RoundEqual, false, f
	}
	a, b := checked.entrant(one), checked.entrant(two)
	if a.Class != b.Class {
		return api.RoundEqual, false, api.Against
	}
	why, is = decide(a.now(), b.now())
	return why, is, api.Fair
}

// Ranks returns the rank of each archer of a class, and 0 for all others.
func Ranks(r api.Round, class int) ([]int, api.Foul) {
	checked, f := look(r, needClass(class))
	if f != api.Fair {
		return nil, f
	}
	return checked.ranks(class), api.Fair
}

// After returns what the ranks would be by the first n arrows of each archer.
func After(r api.Round, class, n int) ([]int, api.Foul) {
	checked, f := look(r, needClass(class), needArrows(n))
	if f != api.Fair {
		return nil, f
	}
	return checked.plain().cut(n).ranks(class), api.Fair
}

// Ties returns the archers of a class who have the same rank, ordered by rank.
func Ties(r api.Round, class int) ([][]int, api.Foul) {
	checked, f := look(r, needClass(class))
	if f != api.Fair {
		return nil, f
	}
	return checked.ties(class), api.Fair
}
