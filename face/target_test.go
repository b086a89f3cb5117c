package face_test

import (
	"math"
	"math/rand"
	"testing"

	"nock/api"
	"nock/face"
)

func manyRings(n int) []api.FaceRing {
	var l []api.FaceRing
	for i := range n {
		l = append(l, api.FaceRing{Radius: i + 1, Value: 10 - i})
	}
	return l
}

// P2.1: every foul of a target, at its limits.
func TestCheckTarget(t *testing.T) {
	type change = func(t *api.FaceTarget)
	for what, x := range map[string]struct {
		change change
		want   api.Foul
	}{
		"as it is":            {func(t *api.FaceTarget) {}, api.Fair},
		"no rings":            {func(t *api.FaceTarget) { t.Rings = nil }, api.BadCount},
		"empty rings":         {func(t *api.FaceTarget) { t.Rings = []api.FaceRing{} }, api.BadCount},
		"one ring":            {func(t *api.FaceTarget) { t.Rings = t.Rings[:1] }, api.Fair},
		"six rings":           {func(t *api.FaceTarget) { t.Rings = manyRings(6) }, api.Fair},
		"seven rings":         {func(t *api.FaceTarget) { t.Rings = manyRings(7) }, api.BadCount},
		"radius below":        {func(t *api.FaceTarget) { t.Rings[0].Radius = 0 }, api.OffLimits},
		"least radius":        {func(t *api.FaceTarget) { t.Rings[0].Radius = 1 }, api.Fair},
		"greatest radius":     {func(t *api.FaceTarget) { t.Rings[2].Radius, t.Spots = 120, t.Spots[:1] }, api.Fair},
		"radius above":        {func(t *api.FaceTarget) { t.Rings[2].Radius, t.Spots = 121, t.Spots[:1] }, api.OffLimits},
		"value below":         {func(t *api.FaceTarget) { t.Rings[2].Value = 0 }, api.OffLimits},
		"least value":         {func(t *api.FaceTarget) { t.Rings[2].Value = 1 }, api.Fair},
		"value above":         {func(t *api.FaceTarget) { t.Rings[0].Value = 11 }, api.OffLimits},
		"same radius":         {func(t *api.FaceTarget) { t.Rings[1].Radius = 2 }, api.OutOfOrder},
		"lesser radius":       {func(t *api.FaceTarget) { t.Rings[2].Radius = 3 }, api.OutOfOrder},
		"next radius":         {func(t *api.FaceTarget) { t.Rings[1].Radius = 3 }, api.Fair},
		"same value":          {func(t *api.FaceTarget) { t.Rings[1].Value = 10 }, api.OutOfOrder},
		"greater value":       {func(t *api.FaceTarget) { t.Rings[2].Value = 10 }, api.OutOfOrder},
		"values with gaps":    {func(t *api.FaceTarget) { t.Rings[1].Value, t.Rings[2].Value = 5, 1 }, api.Fair},
		"inner below":         {func(t *api.FaceTarget) { t.Inner = -1 }, api.OffLimits},
		"no inner":            {func(t *api.FaceTarget) { t.Inner = 0 }, api.Fair},
		"greatest inner":      {func(t *api.FaceTarget) { t.Inner = 2 }, api.Fair},
		"inner above":         {func(t *api.FaceTarget) { t.Inner = 3 }, api.OffLimits},
		"inner of a nine":     {func(t *api.FaceTarget) { t.Rings = t.Rings[1:] }, api.OffLimits},
		"no inner of a nine":  {func(t *api.FaceTarget) { t.Rings, t.Inner = t.Rings[1:], 0 }, api.Fair},
		"no spots":            {func(t *api.FaceTarget) { t.Spots = nil }, api.BadCount},
		"empty spots":         {func(t *api.FaceTarget) { t.Spots = []api.FacePoint{} }, api.BadCount},
		"one spot":            {func(t *api.FaceTarget) { t.Spots = t.Spots[1:] }, api.Fair},
		"three spots":         {func(t *api.FaceTarget) { t.Spots = append(t.Spots, point(-40, 0)) }, api.Fair},
		"four spots":          {func(t *api.FaceTarget) { t.Spots = append(t.Spots, point(-40, 0), point(-80, 0)) }, api.BadCount},
		"spot in a corner":    {func(t *api.FaceTarget) { t.Spots[1] = point(300, -300) }, api.Fair},
		"spot too far right":  {func(t *api.FaceTarget) { t.Spots[1].X = 301 }, api.OffLimits},
		"spot too far left":   {func(t *api.FaceTarget) { t.Spots[0].X = -301 }, api.OffLimits},
		"spot too far above":  {func(t *api.FaceTarget) { t.Spots[0].Y = 301 }, api.OffLimits},
		"spot too far below":  {func(t *api.FaceTarget) { t.Spots[1].Y = -301 }, api.OffLimits},
		"great place":         {func(t *api.FaceTarget) { t.Spots[1].X = math.MaxInt }, api.OffLimits},
		"spots touch":         {func(t *api.FaceTarget) { t.Spots[1].X = 30 }, api.Against},
		"spots nearly touch":  {func(t *api.FaceTarget) { t.Spots[1].X = 31 }, api.Fair},
		"spots touch aslant":  {func(t *api.FaceTarget) { t.Spots[1] = point(24, 18) }, api.Against},
		"spots apart aslant":  {func(t *api.FaceTarget) { t.Spots[1] = point(24, -19) }, api.Fair},
		"spots at one place":  {func(t *api.FaceTarget) { t.Spots[1] = point(0, 0) }, api.Against},
		"third spot touches":  {func(t *api.FaceTarget) { t.Spots = append(t.Spots, point(-30, 0)) }, api.Against},
		"third spot, second":  {func(t *api.FaceTarget) { t.Spots = append(t.Spots, point(69, 0)) }, api.Against},
		"wider last ring":     {func(t *api.FaceTarget) { t.Rings[2].Radius = 11 }, api.Against},
		"as wide as it may":   {func(t *api.FaceTarget) { t.Rings[2].Radius = 10 }, api.Fair},
		"for any number":      {func(t *api.FaceTarget) { t.Each = false }, api.Fair},
		"many rings, no spot": {func(t *api.FaceTarget) { t.Rings, t.Spots = manyRings(6), nil }, api.BadCount},
	} {
		target := exampleTarget()
		x.change(&target)
		if f := face.CheckTarget(target); f != x.want {
			t.Error(what, f)
		}
		if f := face.CheckEnd(api.FaceEnd{Target: target}); f != x.want {
			t.Error(what, "in an end", f)
		}
		if s, f := face.Score(target, point(0, 0), 0); f != x.want || f != api.Fair && s != (api.FaceScore{}) {
			t.Error(what, "for a score", s, f)
		}
	}
}

// P2.1, R1: of several fouls the first one counts.
func TestCheckTargetOrder(t *testing.T) {
	target := api.FaceTarget{
		Rings: append(manyRings(6), api.FaceRing{}),
		Inner: 9,
		Spots: make([]api.FacePoint, 4),
	}
	target.Rings[1] = api.FaceRing{Radius: 1, Value: 0}
	target.Rings[2] = api.FaceRing{Radius: 121, Value: 9}
	for i, x := range []struct {
		want   api.Foul
		repair func()
	}{
		{api.BadCount, func() { target.Rings = target.Rings[:6] }},
		{api.OffLimits, func() { target.Rings[1].Value = 10 }},
		{api.OutOfOrder, func() { target.Rings[1] = api.FaceRing{Radius: 2, Value: 9} }},
		{api.OffLimits, func() { target.Rings[2].Radius = 2 }},
		{api.OutOfOrder, func() { target.Rings[2] = api.FaceRing{Radius: 3, Value: 8} }},
		{api.OffLimits, func() { target.Inner = 0 }},
		{api.BadCount, func() { target.Spots = []api.FacePoint{point(0, 0), point(9, 0), point(301, 0)} }},
		{api.Against, func() { target.Spots[1].X = 301 }},
		{api.OffLimits, func() { target.Spots[1].X = 100 }},
		{api.OffLimits, func() { target.Spots[2].X = 90 }},
		{api.Against, func() { target.Spots[2].X = 200 }},
		{api.Fair, func() {}},
	} {
		if f := face.CheckTarget(target); f != x.want {
			t.Fatal(i, f, target)
		}
		x.repair()
	}
}

// P2.1: scores of places, those of the chapter among them.
func TestScore(t *testing.T) {
	for i, x := range []struct {
		at    api.FacePoint
		shaft int
		want  api.FaceScore
		f     api.Foul
	}{
		{point(0, 1), 0, inner(0), api.Fair},
		{point(3, 0), 0, score(0, 9), api.Fair},
		{point(3, 0), 1, score(0, 10), api.Fair},
		{point(45, 0), 0, score(1, 8), api.Fair},
		{point(20, 0), 0, miss(), api.Fair},
		{point(40, 0), 0, inner(1), api.Fair},
		{point(1, 1), 0, score(0, 10), api.Fair},
		{point(2, 0), 1, inner(0), api.Fair},
		{point(2, 1), 1, score(0, 10), api.Fair},
		{point(0, -2), 0, score(0, 10), api.Fair},
		{point(2, 1), 0, score(0, 9), api.Fair},
		{point(-4, 0), 0, score(0, 9), api.Fair},
		{point(-4, 1), 0, score(0, 8), api.Fair},
		{point(0, 6), 0, score(0, 8), api.Fair},
		{point(0, 7), 0, miss(), api.Fair},
		{point(1, 6), 0, miss(), api.Fair},
		{point(9, 12), 9, score(0, 8), api.Fair},
		{point(9, 13), 9, miss(), api.Fair},
		{point(300, -300), 9, miss(), api.Fair},
		{point(-300, 300), 0, miss(), api.Fair},
		{point(301, 0), 0, api.FaceScore{}, api.OffLimits},
		{point(-301, 0), 0, api.FaceScore{}, api.OffLimits},
		{point(0, 301), 0, api.FaceScore{}, api.OffLimits},
		{point(0, -301), 0, api.FaceScore{}, api.OffLimits},
		{point(math.MaxInt, math.MinInt), 0, api.FaceScore{}, api.OffLimits},
		{point(0, 0), -1, api.FaceScore{}, api.OffLimits},
		{point(0, 0), 10, api.FaceScore{}, api.OffLimits},
	} {
		if s, f := face.Score(exampleTarget(), x.at, x.shaft); s != x.want || f != x.f {
			t.Error(i, s, f)
		}
	}
	target := exampleTarget()
	target.Inner = 0
	if s, f := face.Score(target, point(0, 0), 9); s != score(0, 10) || f != api.Fair {
		t.Error("without an inner ring", s, f)
	}
	target.Rings = nil
	if s, f := face.Score(target, point(301, 0), -1); s != (api.FaceScore{}) || f != api.BadCount {
		t.Error("with a foul of the target", s, f)
	}
}

// P2.1: the score of each place is that which the chapter describes.
func TestScoreOfEachPlace(t *testing.T) {
	r := rand.New(rand.NewSource(21))
	for range 40 {
		target, shaft := randomTarget(r), r.Intn(api.MaxFaceShaft+1)
		for x := -70; x <= 90; x += 1 + r.Intn(2) {
			for y := -90; y <= 40; y += 1 + r.Intn(2) {
				s, f := face.Score(target, point(x, y), shaft)
				if want := scoreAt(target, point(x, y), shaft); s != want || f != api.Fair {
					t.Fatal(target, x, y, shaft, s, f, want)
				}
			}
		}
	}
}

// wider returns a target with one wider ring (or a wider inner one), if it may be wider.
func wider(r *rand.Rand, target api.FaceTarget) api.FaceTarget {
	o := copyTarget(target)
	if i := r.Intn(len(o.Rings) + 1); i < len(o.Rings) {
		o.Rings[i].Radius++
	} else {
		o.Inner++
	}
	if face.CheckTarget(o) != api.Fair {
		return target
	}
	return o
}

// P2.6: a thicker shaft and a wider ring never make a score less.
func TestWiderIsNeverLess(t *testing.T) {
	r := rand.New(rand.NewSource(22))
	more := 0
	for range 300 {
		target := randomTarget(r)
		// There is room for wider rings.
		target.Spots = target.Spots[:1]
		for range 50 {
			at := point(target.Spots[0].X+r.Intn(41)-20, target.Spots[0].Y+r.Intn(41)-20)
			shaft := r.Intn(api.MaxFaceShaft)
			s, f := face.Score(target, at, shaft)
			fair(t, f)
			thick, f := face.Score(target, at, shaft+1)
			fair(t, f)
			wide, f := face.Score(wider(r, target), at, shaft)
			fair(t, f)
			if numberOf(thick) < numberOf(s) || numberOf(wide) < numberOf(s) || s.Spot >= 0 && (thick.Spot != s.Spot || wide.Spot != s.Spot) {
				t.Fatal(target, at, shaft, s, thick, wide)
			}
			if numberOf(wide) > numberOf(s) {
				more++
			}
		}
	}
	if more == 0 {
		t.Error("no wider ring has made a score greater")
	}
}

// P2.6: a place with the same distance from the same spot has the same score.
func TestSameDistanceSameScore(t *testing.T) {
	r := rand.New(rand.NewSource(23))
	for range 300 {
		target, shaft := randomTarget(r), r.Intn(api.MaxFaceShaft+1)
		centre := target.Spots[r.Intn(len(target.Spots))]
		last := target.Rings[len(target.Rings)-1].Radius + shaft
		x := r.Intn(last + 1)
		y := r.Intn(last + 1)
		if x*x+y*y > last*last {
			continue
		}
		first, f := face.Score(target, point(centre.X+x, centre.Y+y), shaft)
		fair(t, f)
		for _, other := range []api.FacePoint{point(-x, y), point(x, -y), point(-x, -y), point(y, x), point(-y, x), point(y, -x)} {
			s, f := face.Score(target, point(centre.X+other.X, centre.Y+other.Y), shaft)
			if s != first || f != api.Fair {
				t.Fatal(target, centre, x, y, other, s, first, f)
			}
		}
	}
	a, _ := face.Score(api.FaceTarget{Rings: []api.FaceRing{{Radius: 5, Value: 7}}, Spots: []api.FacePoint{{}}}, point(3, 4), 0)
	b, _ := face.Score(api.FaceTarget{Rings: []api.FaceRing{{Radius: 5, Value: 7}}, Spots: []api.FacePoint{{}}}, point(0, 5), 0)
	if a != b || a != score(0, 7) {
		t.Error(a, b)
	}
}
