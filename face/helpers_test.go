package face_test

import (
	"iter"
	"math/rand"
	"slices"
	"testing"

	"nock/api"
	"nock/face"
)

func to(least, most int) api.Span { return api.Span{Min: least, Max: most} }

func point(x, y int) api.FacePoint { return api.FacePoint{X: x, Y: y} }

// box returns the box from a place to another one.
func box(x1, y1, x2, y2 int) api.FaceBox { return api.FaceBox{X: to(x1, x2), Y: to(y1, y2)} }

// spot returns the box of just one place.
func spot(x, y int) api.FaceBox { return box(x, y, x, y) }

func hole(shaft int, boxes ...api.FaceBox) api.FaceArrow {
	return api.FaceArrow{Kind: api.FaceHole, Shaft: shaft, Boxes: boxes}
}

func in(arrow int) api.FaceArrow { return api.FaceArrow{Kind: api.FaceIn, In: arrow} }

func lost() api.FaceArrow { return api.FaceArrow{Kind: api.FaceLost} }

func score(spot, value int) api.FaceScore { return api.FaceScore{Spot: spot, Value: value} }

func inner(spot int) api.FaceScore { return api.FaceScore{Spot: spot, Value: 10, Inner: true} }

func miss() api.FaceScore { return score(-1, 0) }

func total(value, inner int) api.FaceTotal { return api.FaceTotal{Value: value, Inner: inner} }

// exampleTarget is the target T of the chapter.
func exampleTarget() api.FaceTarget {
	return api.FaceTarget{
		Rings: []api.FaceRing{{Radius: 2, Value: 10}, {Radius: 4, Value: 9}, {Radius: 6, Value: 8}},
		Inner: 1,
		Spots: []api.FacePoint{point(0, 0), point(40, 0)},
		Each:  true,
	}
}

// exampleEnd is the end E of the chapter.
func exampleEnd() api.FaceEnd {
	return api.FaceEnd{
		Target: exampleTarget(),
		Arrows: []api.FaceArrow{
			hole(0, box(1, 0, 3, 0)),
			hole(1, box(40, 5, 40, 7)),
			hole(0, box(0, 0, 0, 1), spot(100, 0)),
			in(1),
		},
	}
}

// forAny returns an end whose spots are for any number of arrows.
func forAny(e api.FaceEnd) api.FaceEnd {
	e.Target.Each = false
	return e
}

func forEach(e api.FaceEnd) api.FaceEnd {
	e.Target.Each = true
	return e
}

func withArrows(e api.FaceEnd, arrows ...api.FaceArrow) api.FaceEnd {
	e.Arrows = arrows
	return e
}

func copyTarget(t api.FaceTarget) api.FaceTarget {
	t.Rings, t.Spots = slices.Clone(t.Rings), slices.Clone(t.Spots)
	return t
}

func copyEnd(e api.FaceEnd) api.FaceEnd {
	e.Target, e.Arrows = copyTarget(e.Target), slices.Clone(e.Arrows)
	for i := range e.Arrows {
		e.Arrows[i].Boxes = slices.Clone(e.Arrows[i].Boxes)
	}
	return e
}

func sameTarget(a, b api.FaceTarget) bool {
	return a.Inner == b.Inner && a.Each == b.Each && slices.Equal(a.Rings, b.Rings) && slices.Equal(a.Spots, b.Spots)
}

func sameArrow(a, b api.FaceArrow) bool {
	return a.Kind == b.Kind && a.Shaft == b.Shaft && a.In == b.In && slices.Equal(a.Boxes, b.Boxes)
}

func sameEnd(a, b api.FaceEnd) bool {
	return sameTarget(a.Target, b.Target) && slices.EqualFunc(a.Arrows, b.Arrows, sameArrow)
}

func sameLists(a, b [][]int) bool {
	return slices.EqualFunc(a, b, slices.Equal[[]int])
}

// fair stops a test if there is a foul.
func fair(t *testing.T, f api.Foul) {
	t.Helper()
	if f != api.Fair {
		t.Fatal("foul", f)
	}
}

func scores(t *testing.T, e api.FaceEnd, arrow int) []api.FaceScore {
	t.Helper()
	l, f := face.Scores(e, arrow)
	fair(t, f)
	return l
}

func totals(t *testing.T, e api.FaceEnd) []api.FaceTotal {
	t.Helper()
	l, f := face.Totals(e)
	fair(t, f)
	return l
}

func closer(t *testing.T, e api.FaceEnd, one, two int) api.Sure {
	t.Helper()
	s, f := face.Closer(e, one, two)
	fair(t, f)
	return s
}

func narrow(t *testing.T, e api.FaceEnd, arrow int, at api.FacePoint) api.FaceEnd {
	t.Helper()
	o, f := face.Narrow(e, arrow, spot(at.X, at.Y))
	fair(t, f)
	return o
}

// randomEnd returns an end with few truths, whose holes are near lines.
func randomEnd(r *rand.Rand) api.FaceEnd {
	e := api.FaceEnd{Target: randomTarget(r)}
	for i := range r.Intn(api.MaxFaceArrows + 1) {
		e.Arrows = append(e.Arrows, randomArrow(r, e.Target, i))
	}
	return e
}

func randomTarget(r *rand.Rand) api.FaceTarget {
	t := api.FaceTarget{Each: r.Intn(2) == 0}
	radius, value := 0, api.MaxFaceValue+1
	if r.Intn(4) == 0 {
		value--
	}
	for range 1 + r.Intn(4) {
		radius += 1 + r.Intn(3)
		value -= 1 + r.Intn(2)
		t.Rings = append(t.Rings, api.FaceRing{Radius: radius, Value: value})
	}
	if t.Rings[0].Value == api.MaxFaceValue {
		t.Inner = r.Intn(t.Rings[0].Radius + 1)
	}
	// The spots are as near to each other as they may be.
	far := 2*(radius+api.MaxFaceShaft) + 1
	at := point(r.Intn(20)-10, r.Intn(20)-10)
	t.Spots = []api.FacePoint{at, point(at.X+far, at.Y), point(at.X, at.Y-far)}[:1+r.Intn(api.MaxFaceSpots)]
	return t
}

func randomArrow(r *rand.Rand, t api.FaceTarget, index int) api.FaceArrow {
	switch n := r.Intn(8); {
	case n == 0:
		return api.FaceArrow{Kind: api.FaceLost, Shaft: r.Intn(3)}
	case n <= 2 && index > 0:
		return api.FaceArrow{Kind: api.FaceIn, Shaft: r.Intn(3), In: r.Intn(index)}
	}
	x := hole(r.Intn(3))
	if r.Intn(6) == 0 {
		x.Shaft = api.MaxFaceShaft
	}
	for range 1 + r.Intn(2) {
		x.Boxes = append(x.Boxes, randomBox(r, t, x.Shaft))
	}
	return x
}

// randomBox returns a box of at most six places, near a line of a spot.
func randomBox(r *rand.Rand, t api.FaceTarget, shaft int) api.FaceBox {
	at, ring := t.Spots[r.Intn(len(t.Spots))], t.Rings[r.Intn(len(t.Rings))]
	far := ring.Radius + shaft + r.Intn(3) - 2
	if r.Intn(3) == 0 {
		far = t.Inner + shaft - r.Intn(2)
	}
	x, y := at.X, at.Y
	switch r.Intn(3) {
	case 0:
		x += far
	case 1:
		y -= far
	case 2:
		x, y = x+far*3/5, y+far*4/5
	}
	if r.Intn(2) == 0 {
		return box(x, y, x+r.Intn(2), y+r.Intn(3))
	}
	return box(x, y, x+r.Intn(3), y+r.Intn(2))
}

// What follows finds all of it in another way: by the places of all arrows in each truth, as the chapter describes it.

// truths yields the places that each truth gives the arrows; 0, 0 for those that have made no hole.
func truths(e api.FaceEnd) iter.Seq[[]api.FacePoint] {
	return func(yield func([]api.FacePoint) bool) {
		at := make([]api.FacePoint, len(e.Arrows))
		var next func(i int) bool
		next = func(i int) bool {
			if i == len(at) {
				return yield(slices.Clone(at))
			}
			if e.Arrows[i].Kind != api.FaceHole {
				return next(i + 1)
			}
			for _, b := range e.Arrows[i].Boxes {
				for x := b.X.Min; x <= b.X.Max; x++ {
					for y := b.Y.Min; y <= b.Y.Max; y++ {
						at[i] = point(x, y)
						if !next(i + 1) {
							return false
						}
					}
				}
			}
			return true
		}
		next(0)
	}
}

// fewTruths says whether an end has so few truths that all can be looked at.
func fewTruths(e api.FaceEnd) bool {
	many := 1
	for _, x := range e.Arrows {
		places := 0
		for _, b := range x.Boxes {
			places += (b.X.Max - b.X.Min + 1) * (b.Y.Max - b.Y.Min + 1)
		}
		many *= max(places, 1)
	}
	return many <= 1500
}

// randomFew returns a random end with few truths.
func randomFew(r *rand.Rand) api.FaceEnd {
	for {
		if e := randomEnd(r); fewTruths(e) {
			return e
		}
	}
}

// isIn says whether a place is within a radius of a spot.
func isIn(at, spot api.FacePoint, radius, shaft int) bool {
	x, y, all := at.X-spot.X, at.Y-spot.Y, radius+shaft
	return x*x+y*y <= all*all
}

func scoreAt(t api.FaceTarget, at api.FacePoint, shaft int) api.FaceScore {
	for i, spot := range t.Spots {
		value := 0
		for _, ring := range t.Rings {
			if isIn(at, spot, ring.Radius, shaft) {
				value = max(value, ring.Value)
			}
		}
		if value > 0 {
			return api.FaceScore{Spot: i, Value: value, Inner: t.Inner > 0 && isIn(at, spot, t.Inner, shaft)}
		}
	}
	return miss()
}

// scoresOf returns the scores of all arrows in a truth.
func scoresOf(e api.FaceEnd, at []api.FacePoint) []api.FaceScore {
	var all []api.FaceScore
	for i, x := range e.Arrows {
		switch x.Kind {
		case api.FaceHole:
			all = append(all, scoreAt(e.Target, at[i], x.Shaft))
		case api.FaceIn:
			all = append(all, all[x.In])
		case api.FaceLost:
			all = append(all, miss())
		}
	}
	return all
}

// numberOf is the number of a score.
func numberOf(s api.FaceScore) int {
	if s.Inner {
		return 11
	}
	return s.Value
}

// countsOf returns what counts of the scores of all arrows, and the total.
func countsOf(t api.FaceTarget, all []api.FaceScore) ([]api.FaceScore, api.FaceTotal) {
	counts := slices.Clone(all)
	for spot := range t.Spots {
		var at []int
		for i, s := range all {
			if s.Spot == spot {
				at = append(at, i)
			}
		}
		slices.SortStableFunc(at, func(a, b int) int { return numberOf(all[a]) - numberOf(all[b]) })
		for i, arrow := range at {
			if i > 0 && t.Each {
				counts[arrow] = miss()
			}
		}
	}
	var sum api.FaceTotal
	for _, s := range counts {
		sum.Value += s.Value
		if s.Inner {
			sum.Inner++
		}
	}
	return counts, sum
}

// farOf returns the squares of the distances of all arrows in a truth; that of a lost one is greater than all others.
func farOf(e api.FaceEnd, at []api.FacePoint) []int {
	var all []int
	for i, x := range e.Arrows {
		far := 1 << 40
		switch x.Kind {
		case api.FaceHole:
			for _, spot := range e.Target.Spots {
				far = min(far, (at[i].X-spot.X)*(at[i].X-spot.X)+(at[i].Y-spot.Y)*(at[i].Y-spot.Y))
			}
		case api.FaceIn:
			far = all[x.In]
		}
		all = append(all, far)
	}
	return all
}

// sureOf returns what is to be said of something that is so in some truths and not so in others.
func sureOf(is, isNot bool) api.Sure {
	switch {
	case is && isNot:
		return api.Maybe
	case is:
		return api.Yes
	}
	return api.No
}

// rootOf returns the arrow whose place an arrow has.
func rootOf(e api.FaceEnd, arrow int) int {
	if e.Arrows[arrow].Kind == api.FaceIn {
		return rootOf(e, e.Arrows[arrow].In)
	}
	return arrow
}

// holesOf returns the arrows that have made a hole.
func holesOf(e api.FaceEnd) []int {
	var list []int
	for i, x := range e.Arrows {
		if x.Kind == api.FaceHole {
			list = append(list, i)
		}
	}
	return list
}
