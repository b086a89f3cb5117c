package face

import (
	"cmp"

	"nock/api"
)

// scoresOf returns the scores that truths give an arrow, in order.
func (e end) scoresOf(arrow int) []api.FaceScore {
	if !e.has(arrow) || e.isLost(arrow) {
		return []api.FaceScore{miss()}
	}
	set := make(map[api.FaceScore]bool)
	for at := range e.places(arrow) {
		set[e.scoreAt(arrow, at)] = true
	}
	return ordered(set, compareScores)
}

// compareScores puts greater numbers first, then lesser spots.
func compareScores(a, b api.FaceScore) int {
	return cmp.Or(cmp.Compare(number(b), number(a)), cmp.Compare(a.Spot, b.Spot))
}

// values returns the least and the greatest value that truths give an arrow.
func (c checkedEnd) values(arrow int) api.Span {
	list := c.scores[arrow]
	return api.Span{Min: list[len(list)-1].Value, Max: list[0].Value}
}

// Scores returns the scores that truths give an arrow.
func Scores(e api.FaceEnd, arrow int) ([]api.FaceScore, api.Foul) {
	c, f := look(e, arrow)
	if f != api.Fair {
		return nil, f
	}
	return c.scores[arrow], api.Fair
}

// Values returns the least and the greatest value that truths give an arrow.
func Values(e api.FaceEnd, arrow int) (api.Span, api.Foul) {
	c, f := look(e, arrow)
	if f != api.Fair {
		return api.Span{}, f
	}
	return c.values(arrow), api.Fair
}

// Views returns the numbers of the scores of each arrow, ascending.
func Views(e api.FaceEnd) ([][]int, api.Foul) {
	c, f := look(e)
	if f != api.Fair {
		return nil, f
	}
	var views [][]int
	for arrow := range c.Arrows {
		set := make(map[int]bool)
		for _, s := range c.scores[arrow] {
			set[number(s)] = true
		}
		views = append(views, ordered(set, cmp.Compare[int]))
	}
	return views, api.Fair
}

// Reaches returns whether the value of an arrow is so much or more.
func Reaches(e api.FaceEnd, arrow, value int) (api.Sure, api.Foul) {
	c, f := look(e, arrow)
	if f != api.Fair {
		return api.Maybe, f
	}
	x := c.values(arrow)
	switch {
	case x.Min >= value:
		return api.Yes, api.Fair
	case x.Max < value:
		return api.No, api.Fair
	}
	return api.Maybe, api.Fair
}

// Lines returns the rings in which an arrow is in some truths, and in some not.
func Lines(e api.FaceEnd, arrow int) ([]int, api.Foul) {
	c, f := look(e, arrow)
	if f != api.Fair {
		return nil, f
	}
	// Values fall from ring to ring: a place is in a ring just if it scores the value of the ring, or more.
	x := c.values(arrow)
	var lines []int
	for i, ring := range c.Target.Rings {
		if x.Min < ring.Value && ring.Value <= x.Max {
			lines = append(lines, i)
		}
	}
	return lines, api.Fair
}

// Doubts returns the arrows that have several scores.
func Doubts(e api.FaceEnd) ([]int, api.Foul) {
	c, f := look(e)
	if f != api.Fair {
		return nil, f
	}
	var list []int
	for arrow := range c.Arrows {
		if len(c.scores[arrow]) > 1 {
			list = append(list, arrow)
		}
	}
	return list, api.Fair
}
