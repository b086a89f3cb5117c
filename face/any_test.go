package face_test

import (
	"math"
	"math/rand"
	"reflect"
	"slices"
	"testing"

	"nock/api"
	"nock/face"
)

// anyNumber returns a number that may be of every kind: great, at a limit, or below 0.
func anyNumber(r *rand.Rand) int {
	numbers := []int{0, 0, 0, 1, 1, 2, 3, 4, 5, 6, 7, 8, 9, 10, 11, 40, 119, 120, 121, 299, 300, 301, -1, -2, -9, -300, -301, math.MinInt, math.MaxInt}
	return numbers[r.Intn(len(numbers))]
}

func anySpan(r *rand.Rand) api.Span { return to(anyNumber(r), anyNumber(r)) }

func anyBox(r *rand.Rand) api.FaceBox { return api.FaceBox{X: anySpan(r), Y: anySpan(r)} }

func anyPoint(r *rand.Rand) api.FacePoint { return point(anyNumber(r), anyNumber(r)) }

func anyArrow(r *rand.Rand) api.FaceArrow {
	x := api.FaceArrow{Kind: api.FaceKind(anyNumber(r)), Shaft: anyNumber(r), In: anyNumber(r)}
	for range r.Intn(4) {
		x.Boxes = append(x.Boxes, anyBox(r))
	}
	return x
}

// anyEnd returns an end that has fouls often, of few things or of many.
func anyEnd(r *rand.Rand) api.FaceEnd {
	e := randomEnd(r)
	t := &e.Target
	switch r.Intn(8) {
	case 0:
		t.Rings[r.Intn(len(t.Rings))] = api.FaceRing{Radius: anyNumber(r), Value: anyNumber(r)}
	case 1:
		t.Rings = manyRings(r.Intn(9))
	case 2:
		t.Inner = anyNumber(r)
	case 3:
		t.Spots = append(t.Spots, anyPoint(r))
	case 4:
		t.Spots = nil
	}
	for range r.Intn(3) {
		if len(e.Arrows) > 0 {
			e.Arrows[r.Intn(len(e.Arrows))] = anyArrow(r)
		}
	}
	if r.Intn(10) == 0 {
		e.Arrows = append(e.Arrows, anyArrow(r), anyArrow(r))
	}
	return e
}

// zero says whether results, and lists in them, are as they must be beside a foul.
func zero(results ...any) bool {
	for _, x := range results {
		if v := reflect.ValueOf(x); !v.IsZero() && (v.Kind() != reflect.Slice || v.Len() > 0) {
			return false
		}
	}
	return true
}

// result is what a call returned: its foul, and all else.
type result struct {
	f    api.Foul
	rest []any
}

// question is what calls are given beside an end.
type question struct {
	a, b, n int
	s       api.FaceScore
	box     api.FaceBox
	at      []api.FacePoint
}

// endCalls calls each function with an end.
func endCalls(e api.FaceEnd, q question) []result {
	list, f1 := face.Scores(e, q.a)
	values, f2 := face.Values(e, q.a)
	views, f3 := face.Views(e)
	reaches, f4 := face.Reaches(e, q.a, q.n)
	lines, f5 := face.Lines(e, q.a)
	place, found, f6 := face.Witness(e, q.a, q.s)
	far, f7 := face.Far(e, q.a)
	closer, f8 := face.Closer(e, q.a, q.b)
	sure, can, f9 := face.Nearest(e)
	counts, sum, f10 := face.Counts(e, q.at)
	totals, f11 := face.Totals(e)
	doubts, f12 := face.Doubts(e)
	measure, f13 := face.Measure(e)
	ask, left, f14 := face.Ask(e)
	narrow, f15 := face.Narrow(e, q.a, q.box)
	text, f16 := face.Print(e)
	return []result{
		{face.CheckEnd(e), nil}, {f1, []any{list}}, {f2, []any{values}}, {f3, []any{views}}, {f4, []any{reaches}}, {f5, []any{lines}},
		{f6, []any{place, found}}, {f7, []any{far}}, {f8, []any{closer}}, {f9, []any{sure, can}}, {f10, []any{counts, sum}}, {f11, []any{totals}},
		{f12, []any{doubts}}, {f13, []any{measure}}, {f14, []any{ask, left}},
		{f15, []any{narrow.Target.Rings, narrow.Target.Inner, narrow.Target.Spots, narrow.Target.Each, narrow.Arrows}}, {f16, []any{text}},
	}
}

// checkResults looks for results beside fouls, and for fouls that come before that of the end.
func checkResults(t *testing.T, what any, results []result) {
	t.Helper()
	for i, x := range results {
		if x.f != api.Fair && !zero(x.rest...) {
			t.Fatal("results beside a foul", what, i, x)
		}
		if results[0].f != api.Fair && x.f != results[0].f {
			t.Fatal("another foul before that of the first argument", what, i, x, results[0].f)
		}
	}
}

// P1, R4: any arguments are answered, in the same way each time, and are not changed.
func TestAnyArguments(t *testing.T) {
	r := rand.New(rand.NewSource(81))
	fouls := make(map[api.Foul]int)
	for range 3000 {
		e := anyEnd(r)
		q := question{a: r.Intn(5), b: r.Intn(5), n: anyNumber(r), s: api.FaceScore{Spot: anyNumber(r), Value: anyNumber(r), Inner: r.Intn(2) == 0}, box: anyBox(r)}
		if r.Intn(3) == 0 {
			q.a, q.b = anyNumber(r), anyNumber(r)
		}
		for range r.Intn(6) {
			q.at = append(q.at, anyPoint(r))
		}
		old, oldAt := copyEnd(e), slices.Clone(q.at)
		results := endCalls(e, q)
		checkResults(t, e, results)
		if !sameEnd(e, old) || !slices.Equal(q.at, oldAt) {
			t.Fatal("an argument was changed", e, q)
		}
		if !reflect.DeepEqual(results, endCalls(e, q)) {
			t.Fatal("another answer to the same question", e, q)
		}
		fouls[results[0].f]++
		s, f := face.Score(e.Target, point(q.n, q.a), q.b)
		if f != api.Fair && s != (api.FaceScore{}) {
			t.Fatal(e.Target, q, s, f)
		}
		if first := face.CheckTarget(e.Target); first != api.Fair && f != first {
			t.Fatal(e.Target, f, first)
		}
	}
	for _, f := range []api.Foul{api.Fair, api.OffLimits, api.BadCount, api.Unknown, api.OutOfOrder, api.Against} {
		if fouls[f] == 0 {
			t.Error("no end had the foul", f)
		}
	}
}

// P1: the index of an arrow is examined before what comes after it.
func TestUnknownFirst(t *testing.T) {
	for _, arrow := range []int{-1, 4, math.MinInt, math.MaxInt} {
		results := endCalls(exampleEnd(), question{a: arrow, b: 0, box: box(1, 0, 0, 0)})
		for _, i := range []int{1, 2, 4, 5, 6, 7, 8, 15} {
			if results[i].f != api.Unknown || !zero(results[i].rest...) {
				t.Error(arrow, i, results[i])
			}
		}
	}
}

// P1: any text is answered.
func TestAnyText(t *testing.T) {
	r := rand.New(rand.NewSource(82))
	parts := []string{"target 0 each\n", "ring 2 5\n", "spot 0 0\n", "hole ", "in ", "lost ", "target ", "ring ", " ", " ", " ", "\n", "\n", "1", "2", "3..4", "0", "-", "..", "any", "\xff", "\x00", "999999999"}
	for range 5000 {
		text := ""
		if r.Intn(2) == 0 {
			text = bare
		}
		for range r.Intn(20) {
			text += parts[r.Intn(len(parts))]
		}
		e, line, f := face.Parse(text)
		if f != api.Fair && !sameEnd(e, api.FaceEnd{}) || f != api.BadForm && line != 0 || f == api.BadForm && line == 0 && text != "" {
			t.Fatalf("%q: %v %d %d", text, e, line, f)
		}
	}
}

// R3: nil and an empty slice are the same.
func TestNilAndEmpty(t *testing.T) {
	e := exampleEnd()
	e.Arrows = []api.FaceArrow{{Kind: api.FaceLost}, {Kind: api.FaceIn}}
	o := copyEnd(e)
	for i := range o.Arrows {
		o.Arrows[i].Boxes = []api.FaceBox{}
	}
	at := []api.FacePoint{{}, {}}
	if a, b := endCalls(e, question{at: at}), endCalls(o, question{at: at}); !reflect.DeepEqual(a, b) {
		t.Error(a, b)
	}
	e.Arrows, o.Arrows = nil, []api.FaceArrow{}
	if a, b := endCalls(e, question{}), endCalls(o, question{at: []api.FacePoint{}}); !reflect.DeepEqual(a, b) {
		t.Error(a, b)
	}
}

// R4: results share no memory with each other, nor do two answers.
func TestResultsShareNothing(t *testing.T) {
	e := exampleEnd()
	views, _ := face.Views(e)
	for _, l := range views {
		l = append(l, 99)
		l[0] = -1
	}
	if again, _ := face.Views(e); !sameLists(again, [][]int{{9, 10, 11}, {8, 9}, {0, 11}, {8, 9}}) {
		t.Error(again)
	}
	e = withArrows(e, hole(0, spot(1, 0)), lost())
	sure, can, _ := face.Nearest(e)
	sure[0] = 7
	if can[0] != 0 {
		t.Error(sure, can)
	}
}
