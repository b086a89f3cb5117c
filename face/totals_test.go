package face_test

import (
	"math"
	"math/rand"
	"slices"
	"testing"

	"nock/api"
	"nock/face"
)

// P2.3: what counts in some truths of the chapter's end, and the fouls.
func TestCounts(t *testing.T) {
	first := []api.FacePoint{point(1, 0), point(40, 5), point(0, 0), {}}
	for i, x := range []struct {
		e      api.FaceEnd
		at     []api.FacePoint
		scores []api.FaceScore
		total  api.FaceTotal
		f      api.Foul
	}{
		{exampleEnd(), first, []api.FaceScore{inner(0), score(1, 9), miss(), miss()}, total(19, 1), api.Fair},
		{forAny(exampleEnd()), first, []api.FaceScore{inner(0), score(1, 9), inner(0), score(1, 9)}, total(38, 2), api.Fair},
		{exampleEnd(), []api.FacePoint{point(2, 0), point(40, 6), point(0, 1), {}}, []api.FaceScore{score(0, 10), score(1, 8), miss(), miss()}, total(18, 0), api.Fair},
		{exampleEnd(), []api.FacePoint{point(3, 0), point(40, 7), point(100, 0), {}}, []api.FaceScore{score(0, 9), score(1, 8), miss(), miss()}, total(17, 0), api.Fair},
		{exampleEnd(), nil, nil, total(0, 0), api.BadCount},
		{exampleEnd(), first[:3], nil, total(0, 0), api.BadCount},
		{exampleEnd(), append(slices.Clone(first), api.FacePoint{}), nil, total(0, 0), api.BadCount},
		{exampleEnd(), []api.FacePoint{point(4, 0), point(40, 5), point(0, 0), {}}, nil, total(0, 0), api.Against},
		{exampleEnd(), []api.FacePoint{point(1, 0), point(40, 5), point(50, 0), {}}, nil, total(0, 0), api.Against},
		{exampleEnd(), []api.FacePoint{point(1, 0), point(40, 8), point(0, 0), {X: 1}}, nil, total(0, 0), api.Against},
		{exampleEnd(), []api.FacePoint{point(1, 0), point(40, 5), point(0, 0), {X: 1}}, nil, total(0, 0), api.OffLimits},
		{exampleEnd(), []api.FacePoint{point(1, 0), point(40, 5), point(0, 0), {Y: -1}}, nil, total(0, 0), api.OffLimits},
		{exampleEnd(), []api.FacePoint{point(1, 0), point(40, 5), point(0, 0), point(40, 5)}, nil, total(0, 0), api.OffLimits},
		{exampleEnd(), []api.FacePoint{point(math.MaxInt, math.MinInt), point(40, 5), point(0, 0), {}}, nil, total(0, 0), api.Against},
		{withArrows(exampleEnd(), lost(), hole(0, spot(0, 0))), []api.FacePoint{{X: 301}, point(1, 0)}, nil, total(0, 0), api.OffLimits},
		{withArrows(exampleEnd(), lost(), hole(0, spot(0, 0))), []api.FacePoint{{}, {}}, []api.FaceScore{miss(), inner(0)}, total(10, 1), api.Fair},
		{withArrows(exampleEnd()), nil, nil, total(0, 0), api.Fair},
		{withArrows(exampleEnd()), []api.FacePoint{}, nil, total(0, 0), api.Fair},
		{api.FaceEnd{}, first, nil, total(0, 0), api.BadCount},
	} {
		old := slices.Clone(x.at)
		if l, s, f := face.Counts(x.e, x.at); !slices.Equal(l, x.scores) || s != x.total || f != x.f || !slices.Equal(x.at, old) {
			t.Error(i, l, s, f)
		}
	}
}

// P2.3: which one of several arrows at a spot counts.
func TestCountsOneArrowEach(t *testing.T) {
	ten, other, nine := hole(0, spot(2, 0)), hole(0, spot(0, -2)), hole(0, spot(0, 4))
	middle, away, next := hole(0, spot(0, 0)), hole(0, spot(20, 0)), hole(0, spot(46, 0))
	for what, x := range map[string]struct {
		arrows []api.FaceArrow
		want   []api.FaceScore
		total  api.FaceTotal
	}{
		"the least value":       {[]api.FaceArrow{ten, nine, middle}, []api.FaceScore{miss(), score(0, 9), miss()}, total(9, 0)},
		"not the inner one":     {[]api.FaceArrow{middle, ten}, []api.FaceScore{miss(), score(0, 10)}, total(10, 0)},
		"the first one":         {[]api.FaceArrow{ten, other, middle}, []api.FaceScore{score(0, 10), miss(), miss()}, total(10, 0)},
		"the first inner one":   {[]api.FaceArrow{middle, middle}, []api.FaceScore{inner(0), miss()}, total(10, 1)},
		"misses take no spot":   {[]api.FaceArrow{away, lost(), ten, away}, []api.FaceScore{miss(), miss(), score(0, 10), miss()}, total(10, 0)},
		"two spots":             {[]api.FaceArrow{ten, next, nine}, []api.FaceScore{miss(), score(1, 8), score(0, 9)}, total(17, 0)},
		"one in another":        {[]api.FaceArrow{middle, in(0), next, in(2)}, []api.FaceScore{inner(0), miss(), score(1, 8), miss()}, total(18, 1)},
		"the last of all":       {[]api.FaceArrow{middle, ten, other, nine}, []api.FaceScore{miss(), miss(), miss(), score(0, 9)}, total(9, 0)},
		"one in the least":      {[]api.FaceArrow{nine, ten, in(0), in(1)}, []api.FaceScore{score(0, 9), miss(), miss(), miss()}, total(9, 0)},
		"one in one that is in": {[]api.FaceArrow{away, in(0), in(1), nine}, []api.FaceScore{miss(), miss(), miss(), score(0, 9)}, total(9, 0)},
	} {
		e := withArrows(exampleEnd(), x.arrows...)
		at := make([]api.FacePoint, len(e.Arrows))
		for i, arrow := range e.Arrows {
			if arrow.Kind == api.FaceHole {
				at[i] = point(arrow.Boxes[0].X.Min, arrow.Boxes[0].Y.Min)
			}
		}
		if l, s, f := face.Counts(e, at); !slices.Equal(l, x.want) || s != x.total || f != api.Fair {
			t.Error(what, l, s, f)
		}
		if l := totals(t, e); !slices.Equal(l, []api.FaceTotal{x.total}) {
			t.Error(what, l)
		}
	}
}

// P2.3: totals and what must be measured, of the chapter's ends and some others.
func TestTotals(t *testing.T) {
	e := exampleEnd()
	doubt, sure := hole(0, box(2, 0, 3, 0)), hole(0, spot(40, 3))
	for what, x := range map[string]struct {
		e       api.FaceEnd
		totals  []api.FaceTotal
		measure []int
		arrow   int
		left    int
	}{
		"E":                 {e, []api.FaceTotal{total(19, 1), total(19, 0), total(18, 1), total(18, 0), total(17, 0)}, []int{0, 1}, 0, 2},
		"no arrows":         {withArrows(e), []api.FaceTotal{total(0, 0)}, nil, -1, 1},
		"all lost":          {withArrows(e, lost(), in(0), lost()), []api.FaceTotal{total(0, 0)}, nil, -1, 1},
		"one in doubt":      {withArrows(e, doubt), []api.FaceTotal{total(10, 0), total(9, 0)}, []int{0}, 0, 1},
		"nothing in doubt":  {withArrows(e, sure, lost(), in(0)), []api.FaceTotal{total(9, 0)}, nil, -1, 1},
		"not the sure one":  {forAny(withArrows(e, sure, doubt)), []api.FaceTotal{total(19, 0), total(18, 0)}, []int{1}, 1, 1},
		"not the other one": {withArrows(e, hole(0, spot(3, 0)), hole(0, box(0, 0, 1, 0)), lost()), []api.FaceTotal{total(9, 0)}, nil, -1, 1},
		// Whatever either place is, the other one may keep both totals possible: asked is the first hole, though it is sure.
		"nothing helps": {withArrows(e, sure, doubt, doubt), []api.FaceTotal{total(19, 0), total(18, 0)}, []int{1, 2}, 0, 2},
		// The sums 18 to 20 stay two whichever is known.
		"two in doubt": {forAny(withArrows(e, doubt, doubt)), []api.FaceTotal{total(20, 0), total(19, 0), total(18, 0)}, []int{0, 1}, 0, 2},
		"two in one":   {forAny(withArrows(e, lost(), doubt, in(1), in(2))), []api.FaceTotal{total(30, 0), total(27, 0)}, []int{1}, 1, 1},
		// The spot 0 counts 8, whatever the first one scores there.
		"the lesser one": {withArrows(e, doubt, hole(0, spot(6, 0), spot(5, 0))), []api.FaceTotal{total(8, 0)}, nil, -1, 1},
		// Both numbers are 8 in each truth, but one spot or two may count.
		"two spots":  {withArrows(e, hole(0, spot(6, 0), spot(46, 0)), hole(0, spot(0, 6))), []api.FaceTotal{total(16, 0), total(8, 0)}, []int{0}, 0, 1},
		"inner ones": {forAny(withArrows(e, hole(0, box(0, 1, 0, 2)), hole(0, box(40, 1, 40, 2)))), []api.FaceTotal{total(20, 2), total(20, 1), total(20, 0)}, []int{0, 1}, 0, 2},
	} {
		if l := totals(t, x.e); !slices.Equal(l, x.totals) {
			t.Error(what, l)
		}
		if l, f := face.Measure(x.e); !slices.Equal(l, x.measure) || f != api.Fair {
			t.Error(what, l, f)
		}
		if a, n, f := face.Ask(x.e); a != x.arrow || n != x.left || f != api.Fair {
			t.Error(what, a, n, f)
		}
	}
	if l, f := face.Measure(forAny(e)); !slices.Equal(l, []int{0, 1, 2}) || f != api.Fair {
		t.Error("F", l, f)
	}
	if a, n, f := face.Ask(forAny(e)); a != 0 || n != 4 || f != api.Fair {
		t.Error("F", a, n, f)
	}
}

// P2.3: fouls of an end come from all functions of totals.
func TestTotalsFouls(t *testing.T) {
	bad := exampleEnd()
	bad.Arrows[3].In = 3
	if l, f := face.Totals(bad); len(l) > 0 || f != api.Unknown {
		t.Error(l, f)
	}
	if l, f := face.Measure(bad); len(l) > 0 || f != api.Unknown {
		t.Error(l, f)
	}
	if a, n, f := face.Ask(bad); a != 0 || n != 0 || f != api.Unknown {
		t.Error(a, n, f)
	}
	if l, f := face.Doubts(bad); len(l) > 0 || f != api.Unknown {
		t.Error(l, f)
	}
}

// worstOf returns how many totals are left in the worst case once the places of some arrows are known.
func worstOf(e api.FaceEnd, arrows []int) int {
	sets := make(map[[api.MaxFaceArrows]api.FacePoint]map[api.FaceTotal]bool)
	worst := 0
	for at := range truths(e) {
		var key [api.MaxFaceArrows]api.FacePoint
		for _, arrow := range arrows {
			key[arrow] = at[arrow]
		}
		if sets[key] == nil {
			sets[key] = make(map[api.FaceTotal]bool)
		}
		_, sum := countsOf(e.Target, scoresOf(e, at))
		sets[key][sum] = true
		worst = max(worst, len(sets[key]))
	}
	return worst
}

// P2.3, P2.5, P2: what counts, and the totals, in all truths.
func TestTotalsInAllTruths(t *testing.T) {
	r := rand.New(rand.NewSource(61))
	for range 300 {
		e := randomFew(r)
		list := totals(t, e)
		set := make(map[api.FaceTotal]bool)
		for at := range truths(e) {
			want, sum := countsOf(e.Target, scoresOf(e, at))
			set[sum] = true
			if counts, s, f := face.Counts(e, at); !slices.Equal(counts, want) || s != sum || f != api.Fair {
				t.Fatal(e, at, counts, s, f, want, sum)
			}
		}
		if len(list) != len(set) {
			t.Fatal(e, list, set)
		}
		for i, x := range list {
			if !set[x] || i > 0 && (list[i-1].Value < x.Value || list[i-1].Value == x.Value && list[i-1].Inner <= x.Inner) {
				t.Fatal(e, list, set)
			}
		}
	}
}

// P2.3, P2.7, P4: Measure returns the fewest holes that decide the total, of several such lists the least one.
func TestMeasureIsFewest(t *testing.T) {
	r := rand.New(rand.NewSource(62))
	sizes := make(map[int]int)
	for range 300 {
		e := randomFew(r)
		holes := holesOf(e)
		best := holes
		for bits := range 1 << len(holes) {
			var set []int
			for i, arrow := range holes {
				if bits>>i&1 == 1 {
					set = append(set, arrow)
				}
			}
			if (len(set) < len(best) || len(set) == len(best) && slices.Compare(set, best) < 0) && worstOf(e, set) <= 1 {
				best = set
			}
		}
		if l, f := face.Measure(e); !slices.Equal(l, best) || f != api.Fair {
			t.Fatal(e, l, f, best)
		}
		sizes[len(best)]++
	}
	for size := range 4 {
		if sizes[size] == 0 {
			t.Error("there was no end of which so many holes must be measured:", size)
		}
	}
}

// P2.3, P4: Ask returns the first hole that leaves the fewest totals in the worst case.
func TestAskLeavesFewest(t *testing.T) {
	r := rand.New(rand.NewSource(63))
	for range 300 {
		e := randomFew(r)
		arrow, left := -1, 1
		if worstOf(e, nil) > 1 {
			for _, hole := range holesOf(e) {
				if worst := worstOf(e, []int{hole}); arrow < 0 || worst < left {
					arrow, left = hole, worst
				}
			}
		}
		if a, n, f := face.Ask(e); a != arrow || n != left || f != api.Fair {
			t.Fatal(e, a, n, f, arrow, left)
		}
	}
}

// P2.7: once the arrows of Measure are known, wherever they are, the total is certain; once Ask's arrow is known, no more totals are left than Ask says.
func TestMeasuredIsCertain(t *testing.T) {
	r := rand.New(rand.NewSource(64))
	for range 100 {
		e := randomFew(r)
		measure, f := face.Measure(e)
		fair(t, f)
		ask, left, f := face.Ask(e)
		fair(t, f)
		if ask < 0 {
			if l := totals(t, e); len(l) != 1 || len(measure) > 0 || left != 1 {
				t.Fatal(e, l, measure, left)
			}
			continue
		}
		most := 0
		for at := range truths(e) {
			known := e
			for _, arrow := range measure {
				known = narrow(t, known, arrow, at[arrow])
			}
			_, sum := countsOf(e.Target, scoresOf(e, at))
			if l := totals(t, known); !slices.Equal(l, []api.FaceTotal{sum}) {
				t.Fatal(e, measure, at, l, sum)
			}
			most = max(most, len(totals(t, narrow(t, e, ask, at[ask]))))
		}
		if most != left {
			t.Fatal(e, ask, left, most)
		}
	}
}

// P2.9: a target with one arrow for each spot never has a greater total than one without; with one arrow there it is the same.
func TestOneArrowEachIsNeverMore(t *testing.T) {
	r := rand.New(rand.NewSource(65))
	equal, less := 0, 0
	for range 300 {
		e := randomFew(r)
		for at := range truths(e) {
			_, each, f := face.Counts(forEach(e), at)
			fair(t, f)
			_, all, f := face.Counts(forAny(e), at)
			fair(t, f)
			spots := make(map[int]int)
			alone := true
			for _, s := range scoresOf(e, at) {
				spots[s.Spot]++
				alone = alone && (s.Spot < 0 || spots[s.Spot] == 1)
			}
			if each.Value > all.Value || each.Inner > all.Inner || alone && each != all {
				t.Fatal(e, at, each, all)
			}
			if alone {
				equal++
			} else {
				less++
			}
		}
		if a, b := totals(t, forEach(e)), totals(t, forAny(e)); a[0].Value > b[0].Value {
			t.Fatal(e, a, b)
		}
		if len(e.Arrows) > 0 {
			one := withArrows(e, e.Arrows[0])
			if a, b := totals(t, forEach(one)), totals(t, forAny(one)); !slices.Equal(a, b) {
				t.Fatal(one, a, b)
			}
		}
	}
	if equal == 0 || less == 0 {
		t.Error(equal, less)
	}
}

// withLost returns an end with one more arrow, which is lost, before the one with an index.
func withLost(e api.FaceEnd, index int) api.FaceEnd {
	o := copyEnd(e)
	for i, x := range o.Arrows {
		if x.Kind == api.FaceIn && x.In >= index {
			o.Arrows[i].In++
		}
	}
	o.Arrows = slices.Insert(o.Arrows, index, lost())
	return o
}

// P2.9: a lost arrow adds nothing, wherever it stands in the list.
func TestLostAddsNothing(t *testing.T) {
	r := rand.New(rand.NewSource(66))
	for range 300 {
		e := randomEnd(r)
		if len(e.Arrows) == api.MaxFaceArrows {
			continue
		}
		index := r.Intn(len(e.Arrows) + 1)
		o := withLost(e, index)
		if a, b := totals(t, e), totals(t, o); !slices.Equal(a, b) {
			t.Fatal(e, o, a, b)
		}
		measure, f := face.Measure(e)
		fair(t, f)
		for i, arrow := range measure {
			if arrow >= index {
				measure[i]++
			}
		}
		if l, f := face.Measure(o); !slices.Equal(l, measure) || f != api.Fair {
			t.Fatal(e, o, l, f, measure)
		}
	}
}

// P5: the order of arrows changes no more than their indexes.
func TestArrowsHaveNoOrder(t *testing.T) {
	r := rand.New(rand.NewSource(67))
	for range 300 {
		e := randomEnd(r)
		if slices.ContainsFunc(e.Arrows, func(x api.FaceArrow) bool { return x.Kind == api.FaceIn }) {
			continue
		}
		o := copyEnd(e)
		slices.Reverse(o.Arrows)
		last := len(e.Arrows) - 1
		if a, b := totals(t, e), totals(t, o); !slices.Equal(a, b) {
			t.Fatal(e, a, b)
		}
		for i := range e.Arrows {
			if !slices.Equal(scores(t, e, i), scores(t, o, last-i)) {
				t.Fatal(e, i)
			}
			for j := range e.Arrows {
				if closer(t, e, i, j) != closer(t, o, last-i, last-j) {
					t.Fatal(e, i, j)
				}
			}
		}
		a, _ := face.Measure(e)
		b, _ := face.Measure(o)
		if len(a) != len(b) {
			t.Fatal(e, a, b)
		}
	}
}

// P1: the end with most scores is answered, too.
func TestMostScores(t *testing.T) {
	e := api.FaceEnd{Target: api.FaceTarget{Rings: manyRings(6), Inner: 1, Spots: []api.FacePoint{point(0, 0), point(40, 0)}}}
	for i := range e.Target.Rings {
		e.Target.Rings[i].Radius++
	}
	for range api.MaxFaceArrows {
		e.Arrows = append(e.Arrows, hole(0, box(0, 0, 8, 8), box(40, 0, 48, 8)))
	}
	if l := scores(t, e, 3); len(l) != 15 {
		t.Error(l)
	}
	if l := totals(t, e); l[0] != total(40, 4) || l[len(l)-1] != total(0, 0) {
		t.Error(l)
	}
	if l, f := face.Measure(e); !slices.Equal(l, []int{0, 1, 2, 3}) || f != api.Fair {
		t.Error(l, f)
	}
	if a, _, f := face.Ask(e); a != 0 || f != api.Fair {
		t.Error(a, f)
	}
}
