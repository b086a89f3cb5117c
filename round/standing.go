package round

import "nock/api"

// standing is what an archer has in a truth.
type standing struct {
	out  bool
	sum  api.RoundSum
	offs []api.RoundOff
}

// score is what counts of an archer against another one. The arrow of the shoot-off is the first one in which the two differ.
type score struct {
	out bool
	sum api.RoundSum
	off api.RoundOff
}

// scores returns what counts of two archers against each other.
func scores(a, b standing) (one, two score) {
	one, two = score{out: a.out, sum: a.sum}, score{out: b.out, sum: b.sum}
	for i := range min(len(a.offs), len(b.offs)) {
		if a.offs[i] != b.offs[i] {
			one.off, two.off = a.offs[i], b.offs[i]
			break
		}
	}
	return one, two
}

// upTo returns a score without what would only count after a reason. How many arrows were shot never counts.
func (x score) upTo(why api.RoundWhy) score {
	x.sum.Arrows = 0
	switch why {
	case api.RoundOut:
		x.sum.Points = 0
		fallthrough
	case api.RoundPoints:
		x.sum.Tens = 0
		fallthrough
	case api.RoundTens:
		x.sum.Inners = 0
		fallthrough
	case api.RoundInners:
		x.off.Number = 0
		fallthrough
	case api.RoundNumber:
		x.off.Far = 0
	}
	return x
}

// decider is a reason why one archer can be above another one, and says whether the first is, if it is by this that they differ.
type decider struct {
	why   api.RoundWhy
	above func(a, b score) bool
}

// deciders returns what decides between two archers, in this order.
func deciders() []decider {
	return []decider{
		{api.RoundOut, func(a, b score) bool { return b.out }},
		{api.RoundPoints, func(a, b score) bool { return a.sum.Points > b.sum.Points }},
		{api.RoundTens, func(a, b score) bool { return a.sum.Tens > b.sum.Tens }},
		{api.RoundInners, func(a, b score) bool { return a.sum.Inners > b.sum.Inners }},
		{api.RoundNumber, func(a, b score) bool { return a.off.Number > b.off.Number }},
		{api.RoundFar, func(a, b score) bool { return a.off.Far < b.off.Far }},
	}
}

// decide returns by what two archers of a class differ, and whether the first is above the second.
func decide(a, b standing) (why api.RoundWhy, is bool) {
	one, two := scores(a, b)
	for _, d := range deciders() {
		if one.upTo(d.why) != two.upTo(d.why) {
			return d.why, d.above(one, two)
		}
	}
	return api.RoundEqual, false
}

// isAbove says whether an archer is above another one of the class.
func (a standing) isAbove(b standing) bool {
	_, is := decide(a, b)
	return is
}

// isBetter says whether a sum is better than another one.
func isBetter(a, b api.RoundSum) bool {
	return standing{sum: a}.isAbove(standing{sum: b})
}

func isWorse(a, b api.RoundSum) bool {
	return isBetter(b, a)
}

// now returns what an archer has as long as the missing arrows are not shot.
func (e entrant) now() standing {
	return standing{out: e.Out, sum: sumOfAll(e.Arrows), offs: e.Offs}
}

// best returns what an archer has in the best truth.
func (e entrant) best() standing {
	return e.utmost(isBetter)
}

// worst returns what an archer has in the worst truth.
func (e entrant) worst() standing {
	return e.utmost(isWorse)
}

// utmost returns what an archer has if each missing arrow has the sum that is before all others. What is best of each arrow is best of all, since the arrows are free of each other.
func (e entrant) utmost(before func(a, b api.RoundSum) bool) standing {
	s := e.now()
	for leg := range e.missing() {
		s.sum = add(s.sum, first(possible(leg), before))
	}
	return s
}

// possible returns the sums that an arrow of a leg can have.
func possible(leg api.RoundLeg) []api.RoundSum {
	var sums []api.RoundSum
	for number := range leg.Best + 1 {
		sums = append(sums, sumOf(number))
	}
	return sums
}

// worstWith returns what an archer has in the worst truth in which the missing arrows have some points together.
func (e entrant) worstWith(points int) standing {
	s := e.now()
	withoutTens := 0
	for leg := range e.missing() {
		s.sum.Arrows++
		withoutTens += min(leg.Best, ten-1)
	}
	// A ten has one point more than the best arrow that is none, and need not be an inner.
	s.sum.Points += points
	s.sum.Tens += max(0, points-withoutTens)
	return s
}
