package round

import "nock/api"

// sumOf returns the sum of one arrow.
func sumOf(number int) api.RoundSum {
	one := api.RoundSum{Arrows: 1}
	switch number {
	case innerTen:
		one.Inners = 1
		fallthrough
	case ten:
		one.Points, one.Tens = ten, 1
	default:
		one.Points = number
	}
	return one
}

func add(a, b api.RoundSum) api.RoundSum {
	return api.RoundSum{Arrows: a.Arrows + b.Arrows, Points: a.Points + b.Points, Tens: a.Tens + b.Tens, Inners: a.Inners + b.Inners}
}

func sumOfAll(numbers []int) api.RoundSum {
	var all api.RoundSum
	for _, number := range numbers {
		all = add(all, sumOf(number))
	}
	return all
}

// legSums returns the sum of the arrows of each leg.
func (e entrant) legSums() []api.RoundSum {
	sums := make([]api.RoundSum, len(e.round.Legs))
	for p, number := range e.shot() {
		sums[p.leg] = add(sums[p.leg], sumOf(number))
	}
	return sums
}

// Arrows returns how many arrows a round has.
func Arrows(r api.Round) (int, api.Foul) {
	checked, f := look(r)
	return checked.length(), f
}

// Place returns the leg, its end, and the arrow of this end that the arrow with a number is.
func Place(r api.Round, n int) (leg, end, arrow int, f api.Foul) {
	checked, f := look(r)
	if f != api.Fair {
		return 0, 0, 0, f
	}
	for number, p := range checked.arrows() {
		if number == n {
			return p.leg, p.end, p.arrow, api.Fair
		}
	}
	return 0, 0, 0, api.OffLimits
}

// Sum returns the sum of an archer's first arrows.
func Sum(r api.Round, archer, n int) (api.RoundSum, api.Foul) {
	checked, f := look(r, needArcher(archer), needArrows(n))
	if f != api.Fair {
		return api.RoundSum{}, f
	}
	e := checked.entrant(archer)
	return sumOfAll(e.Arrows[:min(n, len(e.Arrows))]), api.Fair
}

// LegSums returns the sum of an archer's arrows of each leg.
func LegSums(r api.Round, archer int) ([]api.RoundSum, api.Foul) {
	checked, f := look(r, needArcher(archer))
	if f != api.Fair {
		return nil, f
	}
	return checked.entrant(archer).legSums(), api.Fair
}

// Best returns the best sum that truths give an archer.
func Best(r api.Round, archer int) (api.RoundSum, api.Foul) {
	checked, f := look(r, needArcher(archer))
	if f != api.Fair {
		return api.RoundSum{}, f
	}
	return checked.entrant(archer).best().sum, api.Fair
}
