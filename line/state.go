package line

import "nock/api"

// state is a state of a plan as a key: the step that comes next, and then of each person the signal that was heard last, and the place. Of people that there are not it is all 0.
type state [1 + 2*api.MaxLinePeople]uint8

func (s state) next() int {
	return int(s[0])
}

func (s state) heard(person int) api.LineSignal {
	return api.LineSignal(s[1+2*person])
}

func (s state) place(person int) api.LinePlace {
	return api.LinePlace(s[2+2*person])
}

func (s state) withNext(step int) state {
	s[0] = uint8(step)
	return s
}

func (s state) withHeard(person int, signal api.LineSignal) state {
	s[1+2*person] = uint8(signal)
	return s
}

func (s state) withPlace(person int, place api.LinePlace) state {
	s[2+2*person] = uint8(place)
	return s
}

// stands returns how people stand in a state.
func (c checkedPlan) stands(s state) api.LineState {
	told := api.LineState{Next: s.next()}
	for i := range c.People {
		told.People = append(told.People, api.LineStand{Heard: s.heard(i), Place: s.place(i)})
	}
	return told
}

// stateOf returns a state as a key. It must have no fouls.
func stateOf(told api.LineState) state {
	s := state{}.withNext(told.Next)
	for i, x := range told.People {
		s = s.withHeard(i, x.Heard).withPlace(i, x.Place)
	}
	return s
}

func (c checkedPlan) checkState(s api.LineState) api.Foul {
	if !within(s.Next, 0, len(c.Steps)-1) {
		return api.Unknown
	}
	if len(s.People) != len(c.People) {
		return api.BadCount
	}
	for _, x := range s.People {
		if x.Heard != api.LineNone && !isSignal(x.Heard) || !isPlace(x.Place) {
			return api.OffLimits
		}
	}
	return api.Fair
}

// lookAt checks a plan, and then a state of it.
func lookAt(p api.LinePlan, told api.LineState) (checkedPlan, state, api.Foul) {
	c, f := look(p)
	if f != api.Fair {
		return checkedPlan{}, state{}, f
	}
	if f := c.checkState(told); f != api.Fair {
		return checkedPlan{}, state{}, f
	}
	return c, stateOf(told), api.Fair
}

// danger says whether a state is dangerous, and who is the first one before the line, and the first one on it who may shoot.
func (c checkedPlan) danger(s state) (before, shooter int, is bool) {
	before, shooter = -1, -1
	for i := range c.People {
		if before < 0 && s.place(i) == api.LineBefore {
			before = i
		}
		if shooter < 0 && s.place(i) == api.LineOn && s.heard(i) == api.LineShoot {
			shooter = i
		}
	}
	if before < 0 || shooter < 0 {
		return 0, 0, false
	}
	return before, shooter, true
}

func (c checkedPlan) isDangerous(s state) bool {
	_, _, is := c.danger(s)
	return is
}

// CheckState returns the foul of a state.
func CheckState(p api.LinePlan, s api.LineState) api.Foul {
	_, _, f := lookAt(p, s)
	return f
}

// Start returns the state in the beginning.
func Start(p api.LinePlan) (api.LineState, api.Foul) {
	c, f := look(p)
	if f != api.Fair {
		return api.LineState{}, f
	}
	return c.stands(state{}), api.Fair
}

// Danger returns whether a state is dangerous, and who is before the line, and who can shoot.
func Danger(p api.LinePlan, s api.LineState) (before, shooter int, is bool, f api.Foul) {
	c, at, f := lookAt(p, s)
	if f != api.Fair {
		return 0, 0, false, f
	}
	before, shooter, is = c.danger(at)
	return before, shooter, is, api.Fair
}
