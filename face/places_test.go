package face_test

import (
	"math"
	"math/rand"
	"slices"
	"testing"

	"nock/api"
	"nock/face"
)

// P2.2: the least places of scores, and the fouls.
func TestWitness(t *testing.T) {
	for i, x := range []struct {
		arrow int
		s     api.FaceScore
		want  api.FacePoint
		found bool
		f     api.Foul
	}{
		{0, inner(0), point(1, 0), true, api.Fair},
		{0, score(0, 10), point(2, 0), true, api.Fair},
		{0, score(0, 9), point(3, 0), true, api.Fair},
		{0, score(0, 8), point(0, 0), false, api.Fair},
		{0, score(1, 9), point(0, 0), false, api.Fair},
		{0, miss(), point(0, 0), false, api.Fair},
		{1, score(1, 9), point(40, 5), true, api.Fair},
		{1, score(1, 8), point(40, 6), true, api.Fair},
		{2, inner(0), point(0, 0), true, api.Fair},
		{2, miss(), point(100, 0), true, api.Fair},
		{2, api.FaceScore{Spot: -1, Inner: true}, point(0, 0), false, api.Fair},
		{2, api.FaceScore{}, point(0, 0), false, api.Fair},
		{2, score(math.MinInt, math.MaxInt), point(0, 0), false, api.Fair},
		{3, score(1, 8), point(40, 6), true, api.Fair},
		{4, miss(), point(0, 0), false, api.Unknown},
		{-1, miss(), point(0, 0), false, api.Unknown},
	} {
		if at, found, f := face.Witness(exampleEnd(), x.arrow, x.s); at != x.want || found != x.found || f != x.f {
			t.Error(i, at, found, f)
		}
	}
	// The least place of a score may be in a later box.
	e := withArrows(exampleEnd(), lost(), in(0), hole(0, box(1, 0, 2, 2), box(0, 1, 2, 2)))
	for arrow, x := range []struct {
		s     api.FaceScore
		want  api.FacePoint
		found bool
	}{
		{miss(), point(0, 0), false},
		{miss(), point(0, 0), false},
		{score(0, 10), point(0, 2), true},
	} {
		if at, found, f := face.Witness(e, arrow, x.s); at != x.want || found != x.found || f != api.Fair {
			t.Error(arrow, at, found, f)
		}
	}
}

// P2.2: distances of the chapter's arrows, and the fouls.
func TestFar(t *testing.T) {
	for i, x := range []struct {
		arrow int
		want  api.Span
		f     api.Foul
	}{
		{0, to(1, 9), api.Fair},
		{1, to(25, 49), api.Fair},
		{2, to(0, 3600), api.Fair},
		{3, to(25, 49), api.Fair},
		{4, api.Span{}, api.Unknown},
		{-1, api.Span{}, api.Unknown},
	} {
		if y, f := face.Far(exampleEnd(), x.arrow); y != x.want || f != x.f {
			t.Error(i, y, f)
		}
	}
	e := withArrows(exampleEnd(), lost(), in(0), in(1), hole(9, spot(20, 1)))
	for arrow, want := range []api.Foul{api.NotEnough, api.NotEnough, api.NotEnough, api.Fair, api.Unknown} {
		if y, f := face.Far(e, arrow); f != want || f != api.Fair && y != (api.Span{}) {
			t.Error(arrow, y, f)
		}
	}
	if y, f := face.Far(e, 3); y != to(401, 401) || f != api.Fair {
		t.Error("between two spots", y, f)
	}
	corners := api.FaceEnd{Target: exampleTarget(), Arrows: []api.FaceArrow{hole(0, spot(300, -300))}}
	corners.Target.Spots = []api.FacePoint{point(-300, 300)}
	if y, f := face.Far(corners, 0); y != to(720000, 720000) || f != api.Fair {
		t.Error("from corner to corner", y, f)
	}
}

// P2.2: who is closer, with lost arrows and without.
func TestCloser(t *testing.T) {
	const y, n, m = api.Yes, api.No, api.Maybe
	lostOne := exampleEnd()
	lostOne.Arrows[1] = lost()
	for i, x := range []struct {
		e    api.FaceEnd
		want [4][4]api.Sure
	}{
		{exampleEnd(), [4][4]api.Sure{{n, y, m, y}, {n, n, m, n}, {m, m, n, m}, {n, n, m, n}}},
		{lostOne, [4][4]api.Sure{{n, y, m, y}, {n, n, n, n}, {m, y, n, y}, {n, n, n, n}}},
		// 9 to 9, 9 to 16, 4 to 9 and 16 to 16
		{withArrows(exampleEnd(), hole(0, spot(3, 0)), hole(0, box(0, 3, 0, 4)), hole(0, box(2, 0, 3, 0)), hole(0, spot(0, -4))), [4][4]api.Sure{{n, m, n, y}, {n, n, n, m}, {m, m, n, y}, {n, n, n, n}}},
	} {
		for a := range 4 {
			for b := range 4 {
				if s, f := face.Closer(x.e, a, b); s != x.want[a][b] || f != api.Fair {
					t.Error(i, a, b, s, f)
				}
			}
		}
	}
	for _, x := range [][2]int{{0, 4}, {4, 0}, {-1, 0}, {0, -1}, {9, 9}} {
		if s, f := face.Closer(exampleEnd(), x[0], x[1]); s != api.Maybe || f != api.Unknown {
			t.Error(x, s, f)
		}
	}
}

// P2.2: the nearest arrows.
func TestNearest(t *testing.T) {
	e := exampleEnd()
	for what, x := range map[string]struct {
		arrows    []api.FaceArrow
		sure, can []int
	}{
		"as it is":        {e.Arrows, nil, []int{0, 2}},
		"no arrows":       {nil, nil, nil},
		"one":             {e.Arrows[1:2], []int{0}, []int{0}},
		"one lost":        {[]api.FaceArrow{lost()}, nil, nil},
		"all lost":        {[]api.FaceArrow{lost(), in(0), lost()}, nil, nil},
		"one not lost":    {[]api.FaceArrow{lost(), in(0), hole(0, spot(300, 300))}, []int{2}, []int{2}},
		"one in another":  {[]api.FaceArrow{hole(0, spot(1, 0)), hole(0, spot(2, 0)), in(0)}, []int{0, 2}, []int{0, 2}},
		"equally far":     {[]api.FaceArrow{hole(0, spot(3, 4)), hole(0, spot(40, -5)), hole(0, spot(0, 6))}, []int{0, 1}, []int{0, 1}},
		"perhaps as far":  {[]api.FaceArrow{hole(0, box(3, 0, 4, 0)), hole(0, spot(0, 4))}, []int{0}, []int{0, 1}},
		"one too far":     {[]api.FaceArrow{hole(0, box(3, 0, 4, 0)), hole(0, spot(0, 5))}, []int{0}, []int{0}},
		"all in doubt":    {[]api.FaceArrow{hole(0, box(1, 0, 3, 0)), hole(0, box(0, 2, 0, 3)), hole(0, box(40, 3, 40, 4))}, nil, []int{0, 1, 2}},
		"second and last": {[]api.FaceArrow{hole(0, spot(5, 0)), hole(0, spot(0, 2)), in(0), in(1)}, []int{1, 3}, []int{1, 3}},
	} {
		sure, can, f := face.Nearest(withArrows(e, x.arrows...))
		if !slices.Equal(sure, x.sure) || !slices.Equal(can, x.can) || f != api.Fair {
			t.Error(what, sure, can, f)
		}
	}
	e.Target.Inner = 3
	if sure, can, f := face.Nearest(e); len(sure)+len(can) > 0 || f != api.OffLimits {
		t.Error(sure, can, f)
	}
}

// P2.5, P2.2, P2, P4: each score is that of its least place, and no other score has a place.
func TestWitnessInAllTruths(t *testing.T) {
	r := rand.New(rand.NewSource(51))
	for range 400 {
		e := randomFew(r)
		for i := range e.Arrows {
			root := e.Arrows[rootOf(e, i)]
			least := make(map[api.FaceScore]api.FacePoint)
			for at := range truths(withArrows(e, root)) {
				if root.Kind != api.FaceHole {
					continue
				}
				s := scoreAt(e.Target, at[0], root.Shaft)
				if old, found := least[s]; !found || at[0].X < old.X || at[0].X == old.X && at[0].Y < old.Y {
					least[s] = at[0]
				}
			}
			for spot := -1; spot < api.MaxFaceSpots; spot++ {
				for value := range api.MaxFaceValue + 1 {
					for _, s := range []api.FaceScore{{Spot: spot, Value: value}, {Spot: spot, Value: value, Inner: true}} {
						want, is := least[s]
						if at, found, f := face.Witness(e, i, s); at != want || found != is || f != api.Fair {
							t.Fatal(e, i, s, at, found, f, want, is)
						}
					}
				}
			}
			for _, s := range scores(t, e, i) {
				if _, found := least[s]; found != (root.Kind == api.FaceHole) {
					t.Fatal(e, i, s)
				}
			}
		}
	}
}

// P2.2, P2: distances and who is closer or nearest, in all truths.
func TestDistancesInAllTruths(t *testing.T) {
	r := rand.New(rand.NewSource(52))
	for range 300 {
		e := randomFew(r)
		n := len(e.Arrows)
		far := make([]api.Span, n)
		var is, isNot [api.MaxFaceArrows][api.MaxFaceArrows]bool
		var nearest, notNearest [api.MaxFaceArrows]bool
		for i := range far {
			far[i] = to(math.MaxInt, 0)
		}
		for at := range truths(e) {
			all := farOf(e, at)
			for i, x := range all {
				far[i] = to(min(far[i].Min, x), max(far[i].Max, x))
				for j, y := range all {
					is[i][j], isNot[i][j] = is[i][j] || x < y, isNot[i][j] || x >= y
				}
				nearest[i], notNearest[i] = nearest[i] || x == slices.Min(all), notNearest[i] || x != slices.Min(all)
			}
		}
		var sure, can []int
		for i := range e.Arrows {
			isLost := e.Arrows[rootOf(e, i)].Kind == api.FaceLost
			if y, f := face.Far(e, i); !isLost && (y != far[i] || f != api.Fair) || isLost && f != api.NotEnough {
				t.Fatal(e, i, y, f, far)
			}
			for j := range e.Arrows {
				if s := closer(t, e, i, j); s != sureOf(is[i][j], isNot[i][j]) {
					t.Fatal(e, i, j, s)
				}
			}
			if nearest[i] && !isLost {
				can = append(can, i)
			}
			if !notNearest[i] && !isLost {
				sure = append(sure, i)
			}
		}
		if a, b, f := face.Nearest(e); !slices.Equal(a, sure) || !slices.Equal(b, can) || f != api.Fair {
			t.Fatal(e, a, b, f, sure, can)
		}
	}
}

// P2.8: nothing is closer than itself, nor are two closer than each other; what is surely closer than something that is surely closer than a third one is surely closer than that.
func TestCloserInOrder(t *testing.T) {
	r := rand.New(rand.NewSource(53))
	chains := 0
	for range 400 {
		e := randomEnd(r)
		sure, can, f := face.Nearest(e)
		fair(t, f)
		allLost := true
		for a := range e.Arrows {
			allLost = allLost && e.Arrows[rootOf(e, a)].Kind == api.FaceLost
			if closer(t, e, a, a) != api.No {
				t.Fatal(e, a)
			}
			for b := range e.Arrows {
				there, back := closer(t, e, a, b), closer(t, e, b, a)
				if there == api.Yes && back != api.No {
					t.Fatal(e, a, b, there, back)
				}
				for c := range e.Arrows {
					if there == api.Yes && closer(t, e, b, c) == api.Yes {
						chains++
						if closer(t, e, a, c) != api.Yes {
							t.Fatal(e, a, b, c)
						}
					}
				}
			}
		}
		if !isPart(sure, can) || (len(can) == 0) != allLost {
			t.Fatal(e, sure, can)
		}
	}
	if chains == 0 {
		t.Error("no arrow was surely closer than a closer one")
	}
}
