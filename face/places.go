package face

import (
	"cmp"
	"slices"

	"nock/api"
)

// comparePlaces puts lesser X first, then lesser Y.
func comparePlaces(a, b api.FacePoint) int {
	return cmp.Or(cmp.Compare(a.X, b.X), cmp.Compare(a.Y, b.Y))
}

// far returns the least and the greatest square of the distance of an arrow that is not lost.
func (c checkedEnd) far(arrow int) api.Span {
	t := target{c.Target}
	var all []int
	for at := range c.places(arrow) {
		all = append(all, t.far(at))
	}
	return api.Span{Min: slices.Min(all), Max: slices.Max(all)}
}

// closer says whether one arrow is closer than another one.
func (c checkedEnd) closer(one, two int) api.Sure {
	// Arrows that have one place are equally far in each truth; all others are free of each other.
	if c.isLost(one) || c.source(one) == c.source(two) {
		return api.No
	}
	if c.isLost(two) {
		return api.Yes
	}
	a, b := c.far(one), c.far(two)
	switch {
	case a.Max < b.Min:
		return api.Yes
	case a.Min >= b.Max:
		return api.No
	}
	return api.Maybe
}

// nearest says whether no other arrow is closer than one that is not lost. Each other arrow decides for itself: where none of them is surely closer, a truth has this one at its nearest place and all others at their farthest ones.
func (c checkedEnd) nearest(arrow int) api.Sure {
	sure := api.Yes
	for other := range c.Arrows {
		switch c.closer(other, arrow) {
		case api.Yes:
			return api.No
		case api.Maybe:
			sure = api.Maybe
		}
	}
	return sure
}

// Witness returns the least place at which an arrow has a score.
func Witness(e api.FaceEnd, arrow int, s api.FaceScore) (at api.FacePoint, found bool, f api.Foul) {
	c, f := look(e, arrow)
	if f != api.Fair {
		return api.FacePoint{}, false, f
	}
	for next := range c.places(arrow) {
		if c.scoreAt(arrow, next) == s && (!found || comparePlaces(next, at) < 0) {
			at, found = next, true
		}
	}
	return at, found, api.Fair
}

// Far returns the least and the greatest square of the distance of an arrow.
func Far(e api.FaceEnd, arrow int) (api.Span, api.Foul) {
	c, f := look(e, arrow)
	if f != api.Fair {
		return api.Span{}, f
	}
	if c.isLost(arrow) {
		return api.Span{}, api.NotEnough
	}
	return c.far(arrow), api.Fair
}

// Closer returns whether one arrow is closer than another one.
func Closer(e api.FaceEnd, one, two int) (api.Sure, api.Foul) {
	c, f := look(e, one, two)
	if f != api.Fair {
		return api.Maybe, f
	}
	return c.closer(one, two), api.Fair
}

// Nearest returns the arrows of which no other arrow is closer, surely and possibly.
func Nearest(e api.FaceEnd) (sure, can []int, f api.Foul) {
	c, f := look(e)
	if f != api.Fair {
		return nil, nil, f
	}
	for arrow := range c.Arrows {
		if c.isLost(arrow) {
			continue
		}
		is := c.nearest(arrow)
		if is == api.Yes {
			sure = append(sure, arrow)
		}
		if is != api.No {
			can = append(can, arrow)
		}
	}
	return sure, can, api.Fair
}
