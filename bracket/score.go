package bracket

import "nock/api"

// Who is ahead, or has won: one of the two sides, or neither.
const (
	neither = iota - 1
	sideOne
	sideTwo
)

// greater returns the side with the greater number.
func greater(n api.BracketPair) int {
	switch {
	case n.One > n.Two:
		return sideOne
	case n.One < n.Two:
		return sideTwo
	}
	return neither
}

// lesser returns the side with the lesser number.
func lesser(n api.BracketPair) int {
	return greater(api.BracketPair{One: n.Two, Two: n.One})
}

// areWithin says whether both numbers are from 0 to most.
func areWithin(n api.BracketPair, most int) bool {
	return within(n.One, 0, most) && within(n.Two, 0, most)
}

// pointsOf returns the points that a set gives to both sides.
func pointsOf(set api.BracketPair) api.BracketPair {
	switch greater(set) {
	case sideOne:
		return api.BracketPair{One: 2}
	case sideTwo:
		return api.BracketPair{Two: 2}
	}
	return api.BracketPair{One: 1, Two: 1}
}

// winnerBy returns the side that has won a match of some sets at most by its points.
func winnerBy(points api.BracketPair, most int) int {
	if max(points.One, points.Two) <= most {
		return neither
	}
	return greater(points)
}

// scoreSets returns the points of all sets of a match.
func scoreSets(most int, sets []api.BracketPair) (points api.BracketPair, f api.Foul) {
	if len(sets) > most {
		return api.BracketPair{}, api.BadCount
	}
	for _, set := range sets {
		if !areWithin(set, api.MaxBracketTotal) {
			return api.BracketPair{}, api.OffLimits
		}
		if winnerBy(points, most) != neither {
			return api.BracketPair{}, api.Against
		}
		more := pointsOf(set)
		points.One += more.One
		points.Two += more.Two
	}
	return points, api.Fair
}

// scoreOffs returns the side that wins a shoot-off.
func scoreOffs(offs []api.BracketPair) (winner int, f api.Foul) {
	winner = neither
	for _, off := range offs {
		if !areWithin(off, api.MaxBracketFar) {
			return neither, api.OffLimits
		}
		if winner != neither {
			return neither, api.Against
		}
		winner = lesser(off)
	}
	return winner, api.Fair
}

// Score returns the points of both sides of a match, and the winner: 0 for One, 1 for Two, -1 if it is not decided.
func Score(most int, sets, offs []api.BracketPair) (one, two, winner int, f api.Foul) {
	if !within(most, 1, api.MaxBracketSets) {
		return 0, 0, 0, api.OffLimits
	}
	points, f := scoreSets(most, sets)
	if f != api.Fair {
		return 0, 0, 0, f
	}
	if len(offs) > api.MaxBracketOffs {
		return 0, 0, 0, api.BadCount
	}
	if len(offs) == 0 {
		return points.One, points.Two, winnerBy(points, most), api.Fair
	}
	if len(sets) != most || greater(points) != neither {
		return 0, 0, 0, api.Against
	}
	winner, f = scoreOffs(offs)
	if f != api.Fair {
		return 0, 0, 0, f
	}
	return points.One, points.Two, winner, api.Fair
}
