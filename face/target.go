package face

import (
	"nock/api"
)

// target is a target as it was given: it may have fouls.
type target struct{ api.FaceTarget }

func (t target) check() api.Foul {
	if f := t.checkRings(); f != api.Fair {
		return f
	}
	if !within(t.Inner, 0, t.Rings[0].Radius) || t.Inner > 0 && t.Rings[0].Value != api.MaxFaceValue {
		return api.OffLimits
	}
	return t.checkSpots()
}

func (t target) checkRings() api.Foul {
	if !within(len(t.Rings), 1, api.MaxFaceRings) {
		return api.BadCount
	}
	for i, ring := range t.Rings {
		if !within(ring.Radius, 1, api.MaxFaceRadius) || !within(ring.Value, 1, api.MaxFaceValue) {
			return api.OffLimits
		}
		if i > 0 && (ring.Radius <= t.Rings[i-1].Radius || ring.Value >= t.Rings[i-1].Value) {
			return api.OutOfOrder
		}
	}
	return api.Fair
}

func (t target) checkSpots() api.Foul {
	if !within(len(t.Spots), 1, api.MaxFaceSpots) {
		return api.BadCount
	}
	last := t.Rings[len(t.Rings)-1]
	for i, spot := range t.Spots {
		if !isPlace(spot) {
			return api.OffLimits
		}
		for _, earlier := range t.Spots[:i] {
			if apart(spot, earlier) <= square(2*(last.Radius+api.MaxFaceShaft)) {
				return api.Against
			}
		}
	}
	return api.Fair
}

// isPlace says whether the coordinates of a place are within their limits.
func isPlace(at api.FacePoint) bool {
	return within(at.X, -api.MaxFacePlace, api.MaxFacePlace) && within(at.Y, -api.MaxFacePlace, api.MaxFacePlace)
}

// apart returns the square of the distance of two places.
func apart(a, b api.FacePoint) int {
	return square(a.X-b.X) + square(a.Y-b.Y)
}

// score returns the score of a place, on a target without fouls. There spots are so far from each other that a place is in the rings of one of them at most.
func (t target) score(at api.FacePoint, shaft int) api.FaceScore {
	for spot, centre := range t.Spots {
		far := apart(at, centre)
		for _, ring := range t.Rings {
			if far <= square(ring.Radius+shaft) {
				inner := t.Inner > 0 && far <= square(t.Inner+shaft)
				return api.FaceScore{Spot: spot, Value: ring.Value, Inner: inner}
			}
		}
	}
	return miss()
}

// far returns the square of the distance of a place from the spot that is nearest.
func (t target) far(at api.FacePoint) int {
	least := apart(at, t.Spots[0])
	for _, spot := range t.Spots[1:] {
		least = min(least, apart(at, spot))
	}
	return least
}

// miss returns the score of a place in no ring.
func miss() api.FaceScore {
	return api.FaceScore{Spot: -1}
}

// number returns the number of a score. As only the greatest value can be an inner one, numbers tell apart what values and inner ones do.
func number(s api.FaceScore) int {
	if s.Inner {
		return api.MaxFaceValue + 1
	}
	return s.Value
}

// CheckTarget returns the foul of a target.
func CheckTarget(t api.FaceTarget) api.Foul {
	return target{t}.check()
}

// Score returns the score of a place with a shaft.
func Score(t api.FaceTarget, at api.FacePoint, shaft int) (api.FaceScore, api.Foul) {
	if f := CheckTarget(t); f != api.Fair {
		return api.FaceScore{}, f
	}
	if !isPlace(at) || !within(shaft, 0, api.MaxFaceShaft) {
		return api.FaceScore{}, api.OffLimits
	}
	return target{t}.score(at, shaft), api.Fair
}
