package face

import (
	"iter"
	"slices"

	"nock/api"
)

// end is an end as it was given: it may have fouls.
type end struct{ api.FaceEnd }

func (e end) check() api.Foul {
	if f := CheckTarget(e.Target); f != api.Fair {
		return f
	}
	if len(e.Arrows) > api.MaxFaceArrows {
		return api.BadCount
	}
	for arrow, x := range e.Arrows {
		if !within(int(x.Kind), 0, len(kinds())-1) || !within(x.Shaft, 0, api.MaxFaceShaft) {
			return api.OffLimits
		}
		if f := kinds()[x.Kind].check(x, arrow); f != api.Fair {
			return f
		}
	}
	return api.Fair
}

func (e end) has(arrow int) bool {
	return within(arrow, 0, len(e.Arrows)-1)
}

// source returns the arrow whose place an arrow has: the arrow itself, unless it stands in another one.
func (e end) source(arrow int) int {
	for e.Arrows[arrow].Kind == api.FaceIn {
		arrow = e.Arrows[arrow].In
	}
	return arrow
}

func (e end) isLost(arrow int) bool {
	return e.Arrows[e.source(arrow)].Kind == api.FaceLost
}

// places yields the places that truths give an arrow; those of two boxes come twice.
func (e end) places(arrow int) iter.Seq[api.FacePoint] {
	return func(yield func(api.FacePoint) bool) {
		for _, b := range e.Arrows[e.source(arrow)].Boxes {
			for x := b.X.Min; x <= b.X.Max; x++ {
				for y := b.Y.Min; y <= b.Y.Max; y++ {
					if !yield(api.FacePoint{X: x, Y: y}) {
						return
					}
				}
			}
		}
	}
}

// scoreAt returns the score of an arrow that is not lost, if it is at a place.
func (e end) scoreAt(arrow int, at api.FacePoint) api.FaceScore {
	return target{e.Target}.score(at, e.Arrows[e.source(arrow)].Shaft)
}

// copied returns an end that shares no memory with this one.
func (e end) copied() api.FaceEnd {
	o := e.FaceEnd
	o.Target.Rings = slices.Clone(o.Target.Rings)
	o.Target.Spots = slices.Clone(o.Target.Spots)
	o.Arrows = slices.Clone(o.Arrows)
	for arrow, x := range o.Arrows {
		o.Arrows[arrow].Boxes = slices.Clone(x.Boxes)
	}
	return o
}

// checkedEnd is an end without fouls, and the scores that truths give each of its arrows. Arrows that there are not have a miss, which adds nothing.
type checkedEnd struct {
	end
	scores [api.MaxFaceArrows][]api.FaceScore
}

// look checks an end, and that it has some arrows.
func look(e api.FaceEnd, arrows ...int) (checkedEnd, api.Foul) {
	c := checkedEnd{end: end{e}}
	if f := c.check(); f != api.Fair {
		return checkedEnd{}, f
	}
	for _, arrow := range arrows {
		if !c.has(arrow) {
			return checkedEnd{}, api.Unknown
		}
	}
	for arrow := range c.scores {
		c.scores[arrow] = c.scoresOf(arrow)
	}
	return c, api.Fair
}

// holes returns the arrows that have made a hole, ascending.
func (c checkedEnd) holes() []int {
	var list []int
	for arrow, x := range c.Arrows {
		if x.Kind == api.FaceHole {
			list = append(list, arrow)
		}
	}
	return list
}

// inBoth returns the places that two boxes have in common.
func inBoth(a, b api.FaceBox) (common api.FaceBox, found bool) {
	common = api.FaceBox{
		X: api.Span{Min: max(a.X.Min, b.X.Min), Max: min(a.X.Max, b.X.Max)},
		Y: api.Span{Min: max(a.Y.Min, b.Y.Min), Max: min(a.Y.Max, b.Y.Max)},
	}
	return common, common.X.Min <= common.X.Max && common.Y.Min <= common.Y.Max
}

// CheckEnd returns the foul of an end.
func CheckEnd(e api.FaceEnd) api.Foul {
	return end{e}.check()
}

// Narrow returns the end in which the hole of an arrow is known to be in a box.
func Narrow(e api.FaceEnd, arrow int, b api.FaceBox) (api.FaceEnd, api.Foul) {
	c, f := look(e, arrow)
	if f != api.Fair {
		return api.FaceEnd{}, f
	}
	if !isSpan(b.X, -api.MaxFacePlace, api.MaxFacePlace) || !isSpan(b.Y, -api.MaxFacePlace, api.MaxFacePlace) {
		return api.FaceEnd{}, api.OffLimits
	}
	var left []api.FaceBox
	for _, old := range c.Arrows[arrow].Boxes {
		if common, found := inBoth(old, b); found {
			left = append(left, common)
		}
	}
	// Only a hole has boxes, so this finds the other kinds, too.
	if len(left) == 0 {
		return api.FaceEnd{}, api.Against
	}
	o := c.copied()
	o.Arrows[arrow].Boxes = left
	return o, api.Fair
}
