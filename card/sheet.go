package card

import (
	"slices"

	"nock/api"
)

// sheet is a card as it was given: it may have fouls.
type sheet struct{ api.CardSheet }

func (s sheet) check() api.Foul {
	return firstFoul(s.checkRule, s.checkCount, s.checkEnds)
}

func (s sheet) checkRule() api.Foul {
	if !within(s.Rule.Arrows, 1, api.MaxCardArrows) || !within(s.Rule.Slips, 0, s.Rule.Arrows) {
		return api.OffLimits
	}
	return api.Fair
}

func (s sheet) checkCount() api.Foul {
	if len(s.Ends) > api.MaxCardEnds {
		return api.BadCount
	}
	return api.Fair
}

func (s sheet) checkEnds() api.Foul {
	for i := range s.Ends {
		e := s.end(i)
		if f := firstFoul(e.checkMarks, e.checkTold); f != api.Fair {
			return f
		}
	}
	return api.Fair
}

func (s sheet) end(index int) end {
	return end{CardEnd: s.Ends[index], rule: s.Rule}
}

func (s sheet) hasEnd(index int) bool {
	return within(index, 0, len(s.Ends)-1)
}

// copied returns a card that shares no memory with this one.
func (s sheet) copied() api.CardSheet {
	o := s.CardSheet
	o.Ends = slices.Clone(o.Ends)
	for i, e := range o.Ends {
		o.Ends[i] = api.CardEnd{Marks: copiedLists(e.Marks), Told: copiedLists(e.Told)}
	}
	return o
}

func copiedLists(lists [][]int) [][]int {
	var all [][]int
	for _, some := range lists {
		all = append(all, slices.Clone(some))
	}
	return all
}

// checkedCard is a card without fouls.
type checkedCard struct{ sheet }

// look checks a card.
func look(c api.CardSheet) (checkedCard, api.Foul) {
	given := checkedCard{sheet{c}}
	if f := given.check(); f != api.Fair {
		return checkedCard{}, f
	}
	return given, api.Fair
}

// lookAtEnd checks a card, and that it has an end, which it returns.
func lookAtEnd(c api.CardSheet, index int) (end, api.Foul) {
	checked, f := look(c)
	if f != api.Fair {
		return end{}, f
	}
	if !checked.hasEnd(index) {
		return end{}, api.Unknown
	}
	return checked.end(index), api.Fair
}

// lookAtArrow checks a card, and that it has an end with an arrow; it returns the end.
func lookAtArrow(c api.CardSheet, index, arrow int) (end, api.Foul) {
	e, f := lookAtEnd(c, index)
	if f != api.Fair {
		return end{}, f
	}
	if !within(arrow, 0, len(e.Marks)-1) {
		return end{}, api.Unknown
	}
	return e, api.Fair
}

// CheckCard returns the foul of a card.
func CheckCard(c api.CardSheet) api.Foul {
	_, f := look(c)
	return f
}

// Look returns the card on which an arrow has those of its marks alone that another look allows.
func Look(c api.CardSheet, end, arrow int, marks []int) (api.CardSheet, api.Foul) {
	e, f := lookAtArrow(c, end, arrow)
	if f != api.Fair {
		return api.CardSheet{}, f
	}
	if f := checkSeen(marks); f != api.Fair {
		return api.CardSheet{}, f
	}
	var both []int
	for _, mark := range e.Marks[arrow] {
		if slices.Contains(marks, mark) {
			both = append(both, mark)
		}
	}
	if len(both) == 0 {
		return api.CardSheet{}, api.Against
	}
	o := sheet{c}.copied()
	o.Ends[end].Marks[arrow] = both
	return o, api.Fair
}

// Tell returns the card on which one more list is told of an end.
func Tell(c api.CardSheet, end int, list []int) (api.CardSheet, api.Foul) {
	if _, f := lookAtEnd(c, end); f != api.Fair {
		return api.CardSheet{}, f
	}
	o := sheet{c}.copied()
	o.Ends[end].Told = append(o.Ends[end].Told, slices.Clone(list))
	if f := CheckCard(o); f != api.Fair {
		return api.CardSheet{}, f
	}
	return o, api.Fair
}
