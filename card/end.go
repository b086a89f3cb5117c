package card

import (
	"iter"

	"nock/api"
)

// end is an end of a card, with the rule of the card.
type end struct {
	api.CardEnd
	rule api.CardRule
}

func (e end) checkMarks() api.Foul {
	if len(e.Marks) != e.rule.Arrows {
		return api.BadCount
	}
	for _, some := range e.Marks {
		if f := checkSeen(some); f != api.Fair {
			return f
		}
	}
	return api.Fair
}

func (e end) checkTold() api.Foul {
	if len(e.Told) > api.MaxCardTold {
		return api.BadCount
	}
	for _, some := range e.Told {
		if len(some) != e.rule.Arrows {
			return api.BadCount
		}
		if f := checkHighestFirst(some); f != api.Fair {
			return f
		}
	}
	return api.Fair
}

// seen yields all that the arrows can have by what was seen of them, whatever was told.
func (e end) seen() iter.Seq[marks] {
	return func(yield func(marks) bool) {
		var give func(arrow int, m marks) bool
		give = func(arrow int, m marks) bool {
			if arrow == len(e.Marks) {
				return yield(m)
			}
			for _, mark := range e.Marks[arrow] {
				m[arrow] = mark
				if !give(arrow+1, m) {
					return false
				}
			}
			return true
		}
		give(0, marks{})
	}
}

// slips returns in how many places a list that is told is wrong at most, if the arrows have some marks.
func (e end) slips(m marks) int {
	most := 0
	high := m.highestFirst()
	for _, told := range e.Told {
		most = max(most, differences[int](high[:len(told)], told))
	}
	return most
}

// truths yields what truths give the arrows.
func (e end) truths() iter.Seq[marks] {
	return func(yield func(marks) bool) {
		for m := range e.seen() {
			if e.slips(m) <= e.rule.Slips && !yield(m) {
				return
			}
		}
	}
}

// given is a mark that an arrow is given.
type given struct{ arrow, mark int }

// knowledge is what truths of an end say: which marks they give the arrows, their lists and their totals. All of it is empty if the end does not fit.
type knowledge struct {
	marks  map[given]bool
	lists  map[marks]bool
	totals map[api.FaceTotal]bool
}

// known goes through all truths of an end.
func (e end) known() knowledge {
	k := knowledge{
		marks:  make(map[given]bool),
		lists:  make(map[marks]bool),
		totals: make(map[api.FaceTotal]bool),
	}
	for m := range e.truths() {
		for arrow := range e.Marks {
			k.marks[given{arrow, m[arrow]}] = true
		}
		k.lists[m.highestFirst()] = true
		k.totals[m.total()] = true
	}
	return k
}

func (k knowledge) fits() bool {
	return len(k.lists) > 0
}

// marksOf returns the marks that truths give an arrow, ascending.
func (k knowledge) marksOf(arrow int) []int {
	var some []int
	for mark := range api.MaxCardMark + 1 {
		if k.marks[given{arrow, mark}] {
			some = append(some, mark)
		}
	}
	return some
}

// wrong says whether a list that is told differs from those of truths.
func (k knowledge) wrong(told []int) api.Sure {
	right := k.lists[marksOf(told)]
	return sure(!right || len(k.lists) > 1, right)
}

// Lists returns the lists of all truths of an end.
func Lists(c api.CardSheet, end int) ([][]int, api.Foul) {
	e, f := lookAtEnd(c, end)
	if f != api.Fair {
		return nil, f
	}
	var lists [][]int
	for _, m := range ordered(e.known().lists, compareMarks) {
		lists = append(lists, m[:len(e.Marks)])
	}
	return lists, api.Fair
}

// compareMarks puts the least list first.
func compareMarks(a, b marks) int {
	return compareLists[int](a[:], b[:])
}

// Marks returns the marks that truths of an end give an arrow.
func Marks(c api.CardSheet, end, arrow int) ([]int, api.Foul) {
	e, f := lookAtArrow(c, end, arrow)
	if f != api.Fair {
		return nil, f
	}
	return e.known().marksOf(arrow), api.Fair
}

// Totals returns the totals of all truths of an end.
func Totals(c api.CardSheet, end int) ([]api.FaceTotal, api.Foul) {
	e, f := lookAtEnd(c, end)
	if f != api.Fair {
		return nil, f
	}
	return ordered(e.known().totals, compareTotals), api.Fair
}

// Slips returns the least number of slips with which an end would fit.
func Slips(c api.CardSheet, end int) (int, api.Foul) {
	e, f := lookAtEnd(c, end)
	if f != api.Fair {
		return 0, f
	}
	least := e.rule.Arrows
	for m := range e.seen() {
		least = min(least, e.slips(m))
	}
	return least, api.Fair
}

// Wrong returns whether a list that is told of an end differs from that of the truth.
func Wrong(c api.CardSheet, end, told int) (api.Sure, api.Foul) {
	e, f := lookAtEnd(c, end)
	if f != api.Fair {
		return api.Maybe, f
	}
	if !within(told, 0, len(e.Told)-1) {
		return api.Maybe, api.Unknown
	}
	k := e.known()
	if !k.fits() {
		return api.Maybe, api.Against
	}
	return k.wrong(e.Told[told]), api.Fair
}
