package round

import "nock/api"

// chances are what each archer of a round has in the worst and in the best truth. Since the archers are free of each other, one of them can have the worst while all others have the best.
type chances struct {
	checkedRound
	worst, best []standing
}

func (r checkedRound) chances() chances {
	return chances{checkedRound: r, worst: r.standings(entrant.worst), best: r.standings(entrant.best)}
}

// among says whether an archer is among the first k of the class.
func (c chances) among(archer, k int) api.Sure {
	switch {
	case c.countAbove(archer, c.worst[archer], c.best) < k:
		return api.Yes
	case c.countAbove(archer, c.best[archer], c.worst) >= k:
		return api.No
	}
	return api.Maybe
}

// threats returns the other archers of the class who can be above an archer.
func (c chances) threats(archer int) []int {
	var threats []int
	for _, other := range c.members(c.Archers[archer].Class) {
		if other != archer && c.best[other].isAbove(c.worst[archer]) {
			threats = append(threats, other)
		}
	}
	return threats
}

// mostShot returns the greatest number of arrows that one of some archers has shot.
func (r checkedRound) mostShot(archers []int) int {
	var shot []int
	for _, archer := range archers {
		shot = append(shot, len(r.Archers[archer].Arrows))
	}
	return first(shot, func(a, b int) bool { return a > b })
}

// settled returns after how many arrows of each archer it is certain who is among the first k of a class.
func (r checkedRound) settled(class, k int) (n int, found bool) {
	members := r.members(class)
search:
	for n := range r.mostShot(members) + 1 {
		then := r.cut(n).chances()
		for _, archer := range members {
			if then.among(archer, k) == api.Maybe {
				continue search
			}
		}
		return n, true
	}
	return 0, false
}

// needs returns the least points of the missing arrows by which an archer is surely among the first k of the class.
func (r checkedRound) needs(archer, k int) (points int, found bool) {
	e, best := r.entrant(archer), r.standings(entrant.best)
	most := best[archer].sum.Points - e.now().sum.Points
	// More points are always better, so those alone have to be looked at that are just enough.
	for points := range most + 1 {
		if r.countAbove(archer, e.worstWith(points), best) < k {
			return points, true
		}
	}
	return 0, false
}

// Among returns whether an archer is among the first k of the class.
func Among(r api.Round, archer, k int) (api.Sure, api.Foul) {
	checked, f := look(r, needArcher(archer), needFirst(k))
	if f != api.Fair {
		return api.Maybe, f
	}
	return checked.chances().among(archer, k), api.Fair
}

// Threats returns the other archers of the class who are above an archer in some truth.
func Threats(r api.Round, archer int) ([]int, api.Foul) {
	checked, f := look(r, needArcher(archer))
	if f != api.Fair {
		return nil, f
	}
	return checked.chances().threats(archer), api.Fair
}

// Settled returns the least number of arrows after which it was certain who is among the first k of a class.
func Settled(r api.Round, class, k int) (n int, found bool, f api.Foul) {
	checked, f := look(r, needClass(class), needFirst(k))
	if f != api.Fair {
		return 0, false, f
	}
	n, found = checked.settled(class, k)
	return n, found, api.Fair
}

// Needs returns the least points that the missing arrows must have so that an archer is surely among the first k of the class.
func Needs(r api.Round, archer, k int) (points int, found bool, f api.Foul) {
	checked, f := look(r, needArcher(archer), needFirst(k))
	if f != api.Fair {
		return 0, false, f
	}
	if checked.Archers[archer].Out {
		return 0, false, api.OutOfOrder
	}
	points, found = checked.needs(archer, k)
	return points, found, api.Fair
}
