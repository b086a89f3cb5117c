package round

import (
	"iter"
	"slices"

	"nock/api"
)

// sheet is a round as it was given: it may have fouls.
type sheet struct{ api.Round }

// place says which arrow, of which end, of which leg an arrow of a round is.
type place struct{ leg, end, arrow int }

// arrows yields the number and the place of each arrow of the round.
func (s sheet) arrows() iter.Seq2[int, place] {
	return func(yield func(number int, p place) bool) {
		number := 0
		for i, leg := range s.Legs {
			for end := range leg.Ends {
				for arrow := range leg.Arrows {
					if !yield(number, place{i, end, arrow}) {
						return
					}
					number++
				}
			}
		}
	}
}

// length returns how many arrows the round has.
func (s sheet) length() int {
	many := 0
	for _, leg := range s.Legs {
		many += leg.Ends * leg.Arrows
	}
	return many
}

func (s sheet) check() api.Foul {
	return firstFoul(s.checkLegs, s.checkLength, s.checkArchers)
}

func (s sheet) checkLegs() api.Foul {
	if !within(len(s.Legs), 1, api.MaxRoundLegs) {
		return api.BadCount
	}
	for _, leg := range s.Legs {
		if !within(leg.Far, 1, api.MaxRoundFar) || !within(leg.Ends, 1, api.MaxRoundEnds) ||
			!within(leg.Arrows, 1, api.MaxRoundArrows) || !within(leg.Best, 1, innerTen) {
			return api.OffLimits
		}
	}
	return api.Fair
}

func (s sheet) checkLength() api.Foul {
	if s.length() > api.MaxRoundAll {
		return api.BadCount
	}
	return api.Fair
}

func (s sheet) checkArchers() api.Foul {
	if len(s.Archers) > api.MaxRoundArchers {
		return api.BadCount
	}
	names := make(map[string]bool)
	for i, a := range s.Archers {
		if !isName(a.Name) {
			return api.BadName
		}
		if names[a.Name] {
			return api.Twice
		}
		names[a.Name] = true
		if f := s.entrant(i).check(); f != api.Fair {
			return f
		}
	}
	return api.Fair
}

// isName says whether a text is a name.
func isName(text string) bool {
	if !within(len(text), 1, api.MaxName) {
		return false
	}
	for i, c := range []byte(text) {
		letter, digit := 'a' <= c && c <= 'z', '0' <= c && c <= '9'
		if !letter && (i == 0 || !digit) {
			return false
		}
	}
	return true
}

// entrant returns the archer with an index.
func (s sheet) entrant(archer int) entrant {
	return entrant{RoundArcher: s.Archers[archer], round: s}
}

// copied returns a round that shares no memory with this one.
func (s sheet) copied() api.Round {
	o := api.Round{Legs: slices.Clone(s.Legs), Archers: slices.Clone(s.Archers)}
	for i, a := range o.Archers {
		o.Archers[i].Arrows, o.Archers[i].Offs = slices.Clone(a.Arrows), slices.Clone(a.Offs)
	}
	return o
}

// checkedRound is a round without fouls.
type checkedRound struct{ sheet }

// need is something that a round must have, or another argument must be.
type need func(s sheet) api.Foul

// look checks a round, and then what is needed, one after the other.
func look(r api.Round, needs ...need) (checkedRound, api.Foul) {
	s := sheet{r}
	if f := s.check(); f != api.Fair {
		return checkedRound{}, f
	}
	for _, needed := range needs {
		if f := needed(s); f != api.Fair {
			return checkedRound{}, f
		}
	}
	return checkedRound{s}, api.Fair
}

func needArcher(archer int) need {
	return func(s sheet) api.Foul {
		if !within(archer, 0, len(s.Archers)-1) {
			return api.Unknown
		}
		return api.Fair
	}
}

// needLimits needs a number from least to most.
func needLimits(n, least, most int) need {
	return func(s sheet) api.Foul {
		if !within(n, least, most) {
			return api.OffLimits
		}
		return api.Fair
	}
}

func needClass(class int) need {
	return needLimits(class, 0, api.MaxRoundClass)
}

// needFirst needs a number of first ones.
func needFirst(k int) need {
	return needLimits(k, 1, api.MaxRoundArchers)
}

// needArrows needs a number of arrows that the round has.
func needArrows(n int) need {
	return func(s sheet) api.Foul {
		return needLimits(n, 0, s.length())(s)
	}
}

// CheckRound returns the foul of a round.
func CheckRound(r api.Round) api.Foul {
	_, f := look(r)
	return f
}

// Shoot returns the round in which an archer has shot one more arrow.
func Shoot(r api.Round, archer, number int) (api.Round, api.Foul) {
	checked, f := look(r, needArcher(archer))
	if f != api.Fair {
		return api.Round{}, f
	}
	leg, found := checked.entrant(archer).next()
	if !found {
		return api.Round{}, api.OutOfOrder
	}
	if !within(number, 0, leg.Best) {
		return api.Round{}, api.OffLimits
	}
	o := checked.copied()
	o.Archers[archer].Arrows = append(o.Archers[archer].Arrows, number)
	return o, api.Fair
}

// Withdraw returns the round in which an archer is out.
func Withdraw(r api.Round, archer int) (api.Round, api.Foul) {
	checked, f := look(r, needArcher(archer))
	if f != api.Fair {
		return api.Round{}, f
	}
	if e := checked.entrant(archer); e.Out || len(e.Offs) > 0 {
		return api.Round{}, api.OutOfOrder
	}
	o := checked.copied()
	o.Archers[archer].Out = true
	return o, api.Fair
}
