package line

import (
	"iter"
	"slices"

	"nock/api"
)

// move is a signal that some posts missed, or a person who goes to a place.
type move struct {
	kind   api.LineKind
	missed set
	person int
	to     api.LinePlace
}

func (m move) told() api.LineMove {
	return api.LineMove{Kind: m.kind, Missed: m.missed.list(), Person: m.person, To: m.to}
}

// canGive says whether what the next step needs is so.
func (c checkedPlan) canGive(s state) bool {
	needed := c.needs[c.Steps[s.next()].Need]
	for i := range c.People {
		if !needed.allows(s.place(i)) {
			return false
		}
	}
	return true
}

func (c checkedPlan) canGo(s state, person int, to api.LinePlace) bool {
	return c.signals[s.heard(person)].lets(s.place(person), to)
}

// moves yields all moves that are possible in a state, in their order.
func (c checkedPlan) moves(s state) iter.Seq[move] {
	return func(yield func(m move) bool) {
		if c.canGive(s) {
			for _, missed := range c.misses {
				if !yield(move{kind: api.LineGive, missed: missed}) {
					return
				}
			}
		}
		for i := range c.People {
			for to := api.LineBehind; to <= api.LineBefore; to++ {
				if c.canGo(s, i, to) && !yield(move{kind: api.LineGo, person: i, to: to}) {
					return
				}
			}
		}
	}
}

// after returns the state to which a move leads.
func (c checkedPlan) after(s state, m move) state {
	if m.kind == api.LineGo {
		return s.withPlace(m.person, m.to)
	}
	given := c.Steps[s.next()].Signal
	for i, x := range c.People {
		if !m.missed.has(x.Post) {
			s = s.withHeard(i, given)
		}
	}
	return s.withNext((s.next() + 1) % len(c.Steps))
}

// possible returns the move of those that are possible in a state which is told.
func (c checkedPlan) possible(s state, told api.LineMove) (m move, found bool) {
	wanted := move{told.Kind, setOf(told.Missed), told.Person, told.To}
	for m := range c.moves(s) {
		// A list may name a post twice, out of order, or one that there is not: then it is not that of the set.
		if m == wanted && slices.Equal(m.missed.list(), told.Missed) {
			return m, true
		}
	}
	return move{}, false
}

// run makes moves as long as they are possible, and returns the state to which they lead, and how many they are.
func (c checkedPlan) run(s state, all []api.LineMove) (state, int) {
	for i, told := range all {
		m, found := c.possible(s, told)
		if !found {
			return s, i
		}
		s = c.after(s, m)
	}
	return s, len(all)
}

// Moves returns all moves that are possible in a state, in their order.
func Moves(p api.LinePlan, s api.LineState) ([]api.LineMove, api.Foul) {
	c, at, f := lookAt(p, s)
	if f != api.Fair {
		return nil, f
	}
	var all []api.LineMove
	for m := range c.moves(at) {
		all = append(all, m.told())
	}
	return all, api.Fair
}

// Step returns the state to which a move leads.
func Step(p api.LinePlan, s api.LineState, m api.LineMove) (api.LineState, api.Foul) {
	c, at, f := lookAt(p, s)
	if f != api.Fair {
		return api.LineState{}, f
	}
	made, found := c.possible(at, m)
	if !found {
		return api.LineState{}, api.Against
	}
	return c.stands(c.after(at, made)), api.Fair
}

// Run returns the state to which moves lead from the beginning, and their number; with Against the state before the first one that is not possible, and the number of moves before it.
func Run(p api.LinePlan, l []api.LineMove) (s api.LineState, n int, f api.Foul) {
	c, f := look(p)
	if f != api.Fair {
		return api.LineState{}, 0, f
	}
	at, n := c.run(state{}, l)
	if n < len(l) {
		f = api.Against
	}
	return c.stands(at), n, f
}
