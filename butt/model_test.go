package butt_test

import (
	"iter"
	"slices"

	"nock/api"
)

// loads are the loads of all positions in all sessions, one session after the other.
type loads []int

// truths yields all truths of a boss.
func truths(b api.ButtBoss) iter.Seq[loads] {
	var all []api.Span
	for _, s := range b.Sessions {
		all = append(all, s.Load...)
	}
	return func(yield func(l loads) bool) {
		l := make(loads, len(all))
		var fill func(i int) bool
		fill = func(i int) bool {
			if i == len(all) {
				return yield(l)
			}
			for n := all[i].Min; n <= all[i].Max; n++ {
				l[i] = n
				if !fill(i + 1) {
					return false
				}
			}
			return true
		}
		fill(0)
	}
}

// wearIn returns the wear of all quarters of all layers in a truth, after the first n sessions of a plan.
func wearIn(b api.ButtBoss, p []api.ButtTurn, n int, l loads) [][]int {
	var all [][]int
	for layer, x := range b.Layers {
		wear := slices.Clone(x.Wear)
		for i, t := range p[:n] {
			for q := range wear {
				if t.Layer == layer {
					wear[q] += l[4*i+(q+t.Turn)%4]
				}
			}
		}
		all = append(all, wear)
	}
	return all
}

// greatestIn returns the greatest wear in a truth after all sessions.
func greatestIn(b api.ButtBoss, p []api.ButtTurn, l loads) int {
	return slices.Max(slices.Concat(wearIn(b, p, len(p), l)...))
}

// numbers are numbers that were seen.
type numbers map[int]bool

// span returns the least and the greatest one.
func (n numbers) span() api.Span {
	x, first := api.Span{}, true
	for i := range n {
		if first {
			x, first = only(i), false
		}
		x = span(min(x.Min, i), max(x.Max, i))
	}
	return x
}

// seenAfter returns the numbers that the wear of each quarter has in some truth.
func seenAfter(b api.ButtBoss, p []api.ButtTurn, n int) [][]numbers {
	seen := make([][]numbers, len(b.Layers))
	for i := range seen {
		seen[i] = []numbers{{}, {}, {}, {}}
	}
	for l := range truths(b) {
		for i, wear := range wearIn(b, p, n, l) {
			for q, x := range wear {
				seen[i][q][x] = true
			}
		}
	}
	return seen
}

// seenOf returns the numbers that something has in some truth.
func seenOf(b api.ButtBoss, of func(l loads) int) numbers {
	seen := numbers{}
	for l := range truths(b) {
		seen[of(l)] = true
	}
	return seen
}

// allPlans yields all plans of a boss with at most so many swaps, the least one first.
func allPlans(b api.ButtBoss, swaps int) iter.Seq[[]api.ButtTurn] {
	return func(yield func(p []api.ButtTurn) bool) {
		p := make([]api.ButtTurn, len(b.Sessions))
		var fill func(i int) bool
		fill = func(i int) bool {
			if i == len(p) {
				return swapsIn(p) > swaps || yield(p)
			}
			for layer := range b.Layers {
				for turn := range 4 {
					p[i] = api.ButtTurn{Layer: layer, Turn: turn}
					if !fill(i + 1) {
						return false
					}
				}
			}
			return true
		}
		fill(0)
	}
}

// mostLoads is the truth in which each load is the greatest one.
func mostLoads(b api.ButtBoss) loads {
	var l loads
	for _, s := range b.Sessions {
		for _, x := range s.Load {
			l = append(l, x.Max)
		}
	}
	return l
}

// worstByTruths returns the greatest wear of a plan in its worst truth.
func worstByTruths(b api.ButtBoss, p []api.ButtTurn) int {
	return seenOf(b, func(l loads) int { return greatestIn(b, p, l) }).span().Max
}

// canStand says whether an archer can use a stand.
func canStand(g api.ButtGround, archer, stand int) bool {
	a, s := g.Archers[archer], g.Stands[stand]
	return a.Near <= s.Far && s.Far <= a.Far && a.Size <= s.Size
}

// isSeating says whether a list gives each archer a stand that can be used, or none, and no stand to too many.
func isSeating(g api.ButtGround, seats []int) bool {
	taken := make([]int, len(g.Stands))
	for archer, stand := range seats {
		if stand == -1 {
			continue
		}
		if stand < 0 || stand >= len(g.Stands) || !canStand(g, archer, stand) {
			return false
		}
		taken[stand]++
		if taken[stand] > g.Stands[stand].Seats {
			return false
		}
	}
	return len(seats) == len(g.Archers)
}

// seated returns how many archers have a stand.
func seated(seats []int) int {
	many := 0
	for _, stand := range seats {
		if stand != -1 {
			many++
		}
	}
	return many
}

// allSeatings yields all lists of stands, and of none, that are seatings. None comes after all stands.
func allSeatings(g api.ButtGround) iter.Seq[[]int] {
	return func(yield func(seats []int) bool) {
		seats := make([]int, len(g.Archers))
		var fill func(i int) bool
		fill = func(i int) bool {
			if i == len(seats) {
				return !isSeating(g, seats) || yield(seats)
			}
			for stand := range len(g.Stands) + 1 {
				seats[i] = stand
				if stand == len(g.Stands) {
					seats[i] = -1
				}
				if !fill(i + 1) {
					return false
				}
			}
			return true
		}
		fill(0)
	}
}

// allLists yields all lists of archers.
func allLists(many int) iter.Seq[[]int] {
	return func(yield func(archers []int) bool) {
		for bits := range 1 << many {
			var l []int
			for i := range many {
				if bits>>i&1 == 1 {
					l = append(l, i)
				}
			}
			if !yield(l) {
				return
			}
		}
	}
}

// lackIn returns how many more some archers are than the seats that they can use.
func lackIn(g api.ButtGround, archers []int) int {
	lack := len(archers)
	for stand, s := range g.Stands {
		if slices.ContainsFunc(archers, func(archer int) bool { return canStand(g, archer, stand) }) {
			lack -= s.Seats
		}
	}
	return max(lack, 0)
}
