package face_test

import (
	"math"
	"math/rand"
	"slices"
	"testing"

	"nock/api"
	"nock/face"
)

// P2.1: what is known of each arrow of the chapter's end, and the fouls.
func TestScores(t *testing.T) {
	for _, x := range []struct {
		arrow  int
		scores []api.FaceScore
		values api.Span
		lines  []int
		f      api.Foul
	}{
		{0, []api.FaceScore{inner(0), score(0, 10), score(0, 9)}, to(9, 10), []int{0}, api.Fair},
		{1, []api.FaceScore{score(1, 9), score(1, 8)}, to(8, 9), []int{1}, api.Fair},
		{2, []api.FaceScore{inner(0), miss()}, to(0, 10), []int{0, 1, 2}, api.Fair},
		{3, []api.FaceScore{score(1, 9), score(1, 8)}, to(8, 9), []int{1}, api.Fair},
		{4, nil, api.Span{}, nil, api.Unknown},
		{-1, nil, api.Span{}, nil, api.Unknown},
		{math.MinInt, nil, api.Span{}, nil, api.Unknown},
	} {
		if l, f := face.Scores(exampleEnd(), x.arrow); !slices.Equal(l, x.scores) || f != x.f {
			t.Error(x.arrow, l, f)
		}
		if y, f := face.Values(exampleEnd(), x.arrow); y != x.values || f != x.f {
			t.Error(x.arrow, y, f)
		}
		if l, f := face.Lines(exampleEnd(), x.arrow); !slices.Equal(l, x.lines) || f != x.f {
			t.Error(x.arrow, l, f)
		}
		if s, f := face.Reaches(exampleEnd(), x.arrow, 8); f != x.f || f != api.Fair && s != api.Maybe {
			t.Error(x.arrow, s, f)
		}
	}
	want := [][]int{{9, 10, 11}, {8, 9}, {0, 11}, {8, 9}}
	if l, f := face.Views(exampleEnd()); !sameLists(l, want) || f != api.Fair {
		t.Error(l, f)
	}
	if l, f := face.Doubts(exampleEnd()); !slices.Equal(l, []int{0, 1, 2, 3}) || f != api.Fair {
		t.Error(l, f)
	}
	none := withArrows(exampleEnd())
	if l, f := face.Views(none); len(l) != 0 || f != api.Fair {
		t.Error(l, f)
	}
	if l, f := face.Doubts(none); len(l) != 0 || f != api.Fair {
		t.Error(l, f)
	}
}

// P2.1: whether arrows of the chapter's end reach a value.
func TestReaches(t *testing.T) {
	for i, x := range []struct {
		arrow, value int
		want         api.Sure
	}{
		{1, 8, api.Yes}, {1, 9, api.Maybe}, {1, 10, api.No}, {0, 9, api.Yes}, {0, 10, api.Maybe}, {0, 11, api.No},
		{2, 0, api.Yes}, {2, 1, api.Maybe}, {2, 10, api.Maybe}, {2, 11, api.No}, {3, 8, api.Yes}, {3, 9, api.Maybe},
		{2, math.MinInt, api.Yes}, {2, math.MaxInt, api.No}, {2, -1, api.Yes},
	} {
		if s, f := face.Reaches(exampleEnd(), x.arrow, x.value); s != x.want || f != api.Fair {
			t.Error(i, s, f)
		}
	}
}

// P2.1: arrows that are lost, or in a lost one, or in one that is in another one.
func TestScoresWithoutHole(t *testing.T) {
	e := withArrows(exampleEnd(), lost(), in(0), hole(1, box(2, 0, 3, 0)), api.FaceArrow{Kind: api.FaceIn, Shaft: 9, In: 2})
	for _, arrow := range []int{0, 1} {
		if l := scores(t, e, arrow); !slices.Equal(l, []api.FaceScore{miss()}) {
			t.Error(arrow, l)
		}
		if l, f := face.Lines(e, arrow); len(l) > 0 || f != api.Fair {
			t.Error(arrow, l, f)
		}
	}
	// The shaft of the arrow that is in the other one does not matter.
	for _, arrow := range []int{2, 3} {
		if l := scores(t, e, arrow); !slices.Equal(l, []api.FaceScore{inner(0), score(0, 10)}) {
			t.Error(arrow, l)
		}
	}
	if l, f := face.Views(e); !sameLists(l, [][]int{{0}, {0}, {10, 11}, {10, 11}}) || f != api.Fair {
		t.Error(l, f)
	}
	if l, f := face.Doubts(e); !slices.Equal(l, []int{2, 3}) || f != api.Fair {
		t.Error(l, f)
	}
	e = withArrows(exampleEnd(), hole(0, box(4, 0, 5, 0)), in(0), in(1), in(2))
	if l := scores(t, e, 3); !slices.Equal(l, []api.FaceScore{score(0, 9), score(0, 8)}) {
		t.Error(l)
	}
}

// P2.1: the same value at two spots is in doubt, though its number is one, and no line matters.
func TestTwoSpots(t *testing.T) {
	e := withArrows(exampleEnd(), hole(0, spot(46, 0), spot(6, 0)))
	if l := scores(t, e, 0); !slices.Equal(l, []api.FaceScore{score(0, 8), score(1, 8)}) {
		t.Error(l)
	}
	if l, f := face.Views(e); !sameLists(l, [][]int{{8}}) || f != api.Fair {
		t.Error(l, f)
	}
	if l, f := face.Doubts(e); !slices.Equal(l, []int{0}) || f != api.Fair {
		t.Error(l, f)
	}
	if l, f := face.Lines(e, 0); len(l) > 0 || f != api.Fair {
		t.Error(l, f)
	}
	// Shafts of the greatest thickness touch spots that are next to each other, but never two at once.
	e.Target.Spots[1].X = 31
	e.Arrows[0] = hole(9, box(15, 0, 16, 0))
	if l := scores(t, e, 0); !slices.Equal(l, []api.FaceScore{score(0, 8), score(1, 8)}) {
		t.Error(l)
	}
}

// P2.1, P2.5, P2: what is said of scores is so in the truths: all that is in them, and no more.
func TestScoresInAllTruths(t *testing.T) {
	r := rand.New(rand.NewSource(41))
	for range 300 {
		e := randomFew(r)
		seen := make([]map[api.FaceScore]bool, len(e.Arrows))
		for i := range seen {
			seen[i] = make(map[api.FaceScore]bool)
		}
		for at := range truths(e) {
			for i, s := range scoresOf(e, at) {
				seen[i][s] = true
			}
		}
		views, f := face.Views(e)
		fair(t, f)
		doubts, f := face.Doubts(e)
		fair(t, f)
		if len(views) != len(e.Arrows) {
			t.Fatal(e, views)
		}
		for i, set := range seen {
			checkScores(t, e, i, set)
			if slices.Contains(doubts, i) != (len(set) > 1) || !slices.IsSorted(doubts) {
				t.Fatal(e, i, doubts, set)
			}
			var numbers []int
			for s := range set {
				numbers = append(numbers, numberOf(s))
			}
			slices.Sort(numbers)
			if !slices.Equal(views[i], slices.Compact(numbers)) {
				t.Fatal(e, i, views, numbers)
			}
		}
	}
}

// inOrder says whether one score comes before another one.
func inOrder(a, b api.FaceScore) bool {
	if a.Value != b.Value {
		return a.Value > b.Value
	}
	if a.Inner != b.Inner {
		return a.Inner
	}
	return a.Spot < b.Spot
}

// checkScores compares what is said of an arrow with the scores that truths give it.
func checkScores(t *testing.T, e api.FaceEnd, arrow int, set map[api.FaceScore]bool) {
	t.Helper()
	list := scores(t, e, arrow)
	least, most := 99, -99
	for s := range set {
		least, most = min(least, s.Value), max(most, s.Value)
	}
	if len(list) != len(set) {
		t.Fatal(e, arrow, list, set)
	}
	for i, s := range list {
		if !set[s] || i > 0 && !inOrder(list[i-1], s) {
			t.Fatal(e, arrow, list, set)
		}
	}
	if x, f := face.Values(e, arrow); x != to(least, most) || f != api.Fair {
		t.Fatal(e, arrow, x, f, set)
	}
	for value := -1; value <= 12; value++ {
		is, isNot := false, false
		for s := range set {
			is, isNot = is || s.Value >= value, isNot || s.Value < value
		}
		if sure, f := face.Reaches(e, arrow, value); sure != sureOf(is, isNot) || f != api.Fair {
			t.Fatal(e, arrow, value, sure, f, set)
		}
	}
}

// P2.1, P2.5: Lines returns the rings in which places of truths are, and other ones are not.
func TestLinesInAllTruths(t *testing.T) {
	r := rand.New(rand.NewSource(42))
	some := 0
	for range 400 {
		e := randomFew(r)
		for i := range e.Arrows {
			root := e.Arrows[rootOf(e, i)]
			var want []int
			for ring, x := range e.Target.Rings {
				is, isNot := false, false
				for at := range truths(withArrows(e, root)) {
					inSome := slices.ContainsFunc(e.Target.Spots, func(spot api.FacePoint) bool { return isIn(at[0], spot, x.Radius, root.Shaft) })
					is, isNot = is || inSome, isNot || !inSome
				}
				if root.Kind == api.FaceHole && is && isNot {
					want = append(want, ring)
					some++
				}
			}
			if l, f := face.Lines(e, i); !slices.Equal(l, want) || f != api.Fair {
				t.Fatal(e, i, l, f, want)
			}
		}
	}
	if some == 0 {
		t.Error("no line was touched")
	}
}

// moved returns an end whose target is moved with all boxes.
func moved(e api.FaceEnd, x, y int) api.FaceEnd {
	o := copyEnd(e)
	for i := range o.Target.Spots {
		o.Target.Spots[i].X += x
		o.Target.Spots[i].Y += y
	}
	for _, arrow := range o.Arrows {
		for i := range arrow.Boxes {
			b := &arrow.Boxes[i]
			*b = box(b.X.Min+x, b.Y.Min+y, b.X.Max+x, b.Y.Max+y)
		}
	}
	return o
}

// sameAnswers says whether all that is said of two ends is the same, but for places.
func sameAnswers(t *testing.T, a, b api.FaceEnd) bool {
	t.Helper()
	for i := range a.Arrows {
		far, f := face.Far(a, i)
		far2, f2 := face.Far(b, i)
		lines, _ := face.Lines(a, i)
		lines2, _ := face.Lines(b, i)
		if !slices.Equal(scores(t, a, i), scores(t, b, i)) || far != far2 || f != f2 || !slices.Equal(lines, lines2) {
			return false
		}
	}
	sure, can, _ := face.Nearest(a)
	sure2, can2, _ := face.Nearest(b)
	measure, _ := face.Measure(a)
	measure2, _ := face.Measure(b)
	ask, left, _ := face.Ask(a)
	ask2, left2, _ := face.Ask(b)
	return slices.Equal(totals(t, a), totals(t, b)) && slices.Equal(sure, sure2) && slices.Equal(can, can2) && slices.Equal(measure, measure2) && ask == ask2 && left == left2
}

// P2.6: a target that is moved with all boxes scores as before.
func TestMoved(t *testing.T) {
	r := rand.New(rand.NewSource(43))
	for range 200 {
		e := randomEnd(r)
		if o := moved(e, r.Intn(101)-50, r.Intn(101)-50); !sameAnswers(t, e, o) {
			t.Fatal(e, o)
		}
	}
}

// P5: the order of boxes changes nothing, nor do boxes that have places in common.
func TestBoxesHaveNoOrder(t *testing.T) {
	r := rand.New(rand.NewSource(44))
	for range 200 {
		e := randomEnd(r)
		o := copyEnd(e)
		for i, x := range o.Arrows {
			slices.Reverse(x.Boxes)
			if len(x.Boxes) == 1 {
				o.Arrows[i].Boxes = append(x.Boxes, x.Boxes[0])
			}
		}
		if !sameAnswers(t, e, o) {
			t.Fatal(e, o)
		}
		for i := range e.Arrows {
			for _, s := range scores(t, e, i) {
				a, _, _ := face.Witness(e, i, s)
				b, _, _ := face.Witness(o, i, s)
				if a != b {
					t.Fatal(e, i, s, a, b)
				}
			}
		}
	}
}
