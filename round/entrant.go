package round

import (
	"iter"

	"nock/api"
)

// entrant is an archer of a round.
type entrant struct {
	api.RoundArcher
	round sheet
}

// check looks for fouls of all but the name.
func (e entrant) check() api.Foul {
	return firstFoul(e.checkClass, e.checkCount, e.checkArrows, e.checkOffs, e.checkOrder)
}

func (e entrant) checkClass() api.Foul {
	if !within(e.Class, 0, api.MaxRoundClass) {
		return api.OffLimits
	}
	return api.Fair
}

func (e entrant) checkCount() api.Foul {
	if len(e.Arrows) > e.round.length() {
		return api.BadCount
	}
	return api.Fair
}

func (e entrant) checkArrows() api.Foul {
	for p, number := range e.shot() {
		if !within(number, 0, e.round.Legs[p.leg].Best) {
			return api.OffLimits
		}
	}
	return api.Fair
}

func (e entrant) checkOffs() api.Foul {
	if len(e.Offs) > api.MaxRoundOffs {
		return api.BadCount
	}
	for _, off := range e.Offs {
		if !within(off.Number, 0, innerTen) || !within(off.Far, 0, api.MaxRoundOff) {
			return api.OffLimits
		}
	}
	return api.Fair
}

func (e entrant) checkOrder() api.Foul {
	if len(e.Offs) > 0 && (e.Out || len(e.Arrows) < e.round.length()) {
		return api.OutOfOrder
	}
	return api.Fair
}

// shot yields the place and the number of each arrow that has been shot.
func (e entrant) shot() iter.Seq2[place, int] {
	return func(yield func(p place, number int) bool) {
		for i, p := range e.round.arrows() {
			if i >= len(e.Arrows) || !yield(p, e.Arrows[i]) {
				return
			}
		}
	}
}

// missing yields the leg of each arrow that the archer has still to shoot: who is out has none.
func (e entrant) missing() iter.Seq[api.RoundLeg] {
	return func(yield func(leg api.RoundLeg) bool) {
		for i, p := range e.round.arrows() {
			if e.Out || i >= len(e.Arrows) && !yield(e.round.Legs[p.leg]) {
				return
			}
		}
	}
}

// next returns the leg of the next arrow.
func (e entrant) next() (leg api.RoundLeg, found bool) {
	for leg := range e.missing() {
		return leg, true
	}
	return api.RoundLeg{}, false
}
