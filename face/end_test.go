package face_test

import (
	"math"
	"math/rand"
	"slices"
	"testing"

	"nock/api"
	"nock/face"
)

// P2.1: every foul of an end, at its limits.
func TestCheckEnd(t *testing.T) {
	arrow := func(i int, change func(x *api.FaceArrow)) func(e *api.FaceEnd) {
		return func(e *api.FaceEnd) { change(&e.Arrows[i]) }
	}
	boxes := func(i int, boxes ...api.FaceBox) func(e *api.FaceEnd) {
		return arrow(i, func(x *api.FaceArrow) { x.Boxes = boxes })
	}
	kind := func(k api.FaceKind, in int) func(e *api.FaceEnd) {
		return arrow(3, func(x *api.FaceArrow) { x.Kind, x.In = k, in })
	}
	for what, x := range map[string]struct {
		change func(e *api.FaceEnd)
		want   api.Foul
	}{
		"as it is":           {func(e *api.FaceEnd) {}, api.Fair},
		"no arrows":          {func(e *api.FaceEnd) { e.Arrows = nil }, api.Fair},
		"empty arrows":       {func(e *api.FaceEnd) { e.Arrows = []api.FaceArrow{} }, api.Fair},
		"five arrows":        {func(e *api.FaceEnd) { e.Arrows = append(e.Arrows, lost()) }, api.BadCount},
		"kind below":         {kind(-1, 0), api.OffLimits},
		"kind above":         {kind(3, 0), api.OffLimits},
		"great kind":         {kind(math.MaxInt, 0), api.OffLimits},
		"shaft below":        {arrow(0, func(x *api.FaceArrow) { x.Shaft = -1 }), api.OffLimits},
		"greatest shaft":     {arrow(0, func(x *api.FaceArrow) { x.Shaft = 9 }), api.Fair},
		"shaft above":        {arrow(0, func(x *api.FaceArrow) { x.Shaft = 10 }), api.OffLimits},
		"shaft in another":   {arrow(3, func(x *api.FaceArrow) { x.Shaft = 10 }), api.OffLimits},
		"hole in no box":     {boxes(0), api.BadCount},
		"hole in two boxes":  {boxes(0, spot(0, 0), spot(0, 0)), api.Fair},
		"hole in three":      {boxes(0, spot(0, 0), spot(0, 1), spot(0, 2)), api.BadCount},
		"X upside down":      {boxes(0, box(3, 0, 2, 0)), api.OffLimits},
		"Y upside down":      {boxes(0, box(2, 0, 2, -1)), api.OffLimits},
		"nine numbers":       {boxes(0, box(-4, -4, 4, 4)), api.Fair},
		"ten numbers of X":   {boxes(0, box(-4, 0, 5, 0)), api.OffLimits},
		"ten numbers of Y":   {boxes(0, box(0, -5, 0, 4)), api.OffLimits},
		"all X":              {boxes(0, box(math.MinInt, 0, math.MaxInt, 0)), api.OffLimits},
		"corner":             {boxes(0, box(292, -300, 300, -292)), api.Fair},
		"X below":            {boxes(0, box(-301, 0, -300, 0)), api.OffLimits},
		"X above":            {boxes(0, box(300, 0, 301, 0)), api.OffLimits},
		"Y below":            {boxes(0, box(0, -301, 0, -300)), api.OffLimits},
		"Y above":            {boxes(0, box(0, 300, 0, 301)), api.OffLimits},
		"second box":         {boxes(0, spot(0, 0), box(1, 0, 0, 0)), api.OffLimits},
		"hole with In":       {arrow(0, func(x *api.FaceArrow) { x.In = 1 }), api.OffLimits},
		"hole with In below": {arrow(1, func(x *api.FaceArrow) { x.In = -1 }), api.OffLimits},
		"in with a box":      {boxes(3, spot(0, 0)), api.BadCount},
		"in the first":       {kind(api.FaceIn, 0), api.Fair},
		"in the one before":  {kind(api.FaceIn, 2), api.Fair},
		"in itself":          {kind(api.FaceIn, 3), api.Unknown},
		"in a later one":     {kind(api.FaceIn, 4), api.Unknown},
		"in none":            {kind(api.FaceIn, -1), api.Unknown},
		"first in another":   {func(e *api.FaceEnd) { e.Arrows = []api.FaceArrow{in(0), lost()} }, api.Unknown},
		"in one that is in":  {func(e *api.FaceEnd) { e.Arrows[2] = in(1); e.Arrows[3] = in(2) }, api.Fair},
		"in a lost one":      {func(e *api.FaceEnd) { e.Arrows[1] = lost() }, api.Fair},
		"lost":               {kind(api.FaceLost, 0), api.Fair},
		"lost with In":       {kind(api.FaceLost, 1), api.OffLimits},
		"lost with a box":    {func(e *api.FaceEnd) { e.Arrows[0].Kind = api.FaceLost }, api.BadCount},
		"lost with a shaft":  {func(e *api.FaceEnd) { e.Arrows[3] = api.FaceArrow{Kind: api.FaceLost, Shaft: 9} }, api.Fair},
		"lost, great shaft":  {func(e *api.FaceEnd) { e.Arrows[3] = api.FaceArrow{Kind: api.FaceLost, Shaft: 10} }, api.OffLimits},
	} {
		e := exampleEnd()
		x.change(&e)
		if f := face.CheckEnd(e); f != x.want {
			t.Error(what, f)
		}
	}
}

// P2.1, R1: of several fouls the first one counts.
func TestCheckEndOrder(t *testing.T) {
	e := api.FaceEnd{Target: exampleTarget(), Arrows: make([]api.FaceArrow, 5)}
	e.Target.Inner = 3
	e.Arrows[0] = api.FaceArrow{Kind: 3, In: 1}
	e.Arrows[1] = api.FaceArrow{Kind: api.FaceIn, In: 1, Boxes: []api.FaceBox{spot(0, 0)}}
	e.Arrows[2] = api.FaceArrow{Kind: api.FaceLost, In: 1, Boxes: []api.FaceBox{spot(0, 0)}}
	e.Arrows[3] = api.FaceArrow{Kind: api.FaceLost, Shaft: 10, Boxes: []api.FaceBox{spot(0, 0)}}
	for i, x := range []struct {
		want   api.Foul
		repair func()
	}{
		{api.OffLimits, func() { e.Target.Inner = 2 }},
		{api.BadCount, func() { e.Arrows = e.Arrows[:4] }},
		{api.OffLimits, func() { e.Arrows[0].Kind = api.FaceHole }},
		{api.BadCount, func() { e.Arrows[0].Boxes = []api.FaceBox{box(1, 0, 0, 0)} }},
		{api.OffLimits, func() { e.Arrows[0].Boxes[0].X.Max = 1 }},
		{api.OffLimits, func() { e.Arrows[0].In = 0 }},
		{api.BadCount, func() { e.Arrows[1].Boxes = nil }},
		{api.Unknown, func() { e.Arrows[1].In = 0 }},
		{api.BadCount, func() { e.Arrows[2].Boxes = nil }},
		{api.OffLimits, func() { e.Arrows[2].In = 0 }},
		{api.OffLimits, func() { e.Arrows[3].Shaft = 9 }},
		{api.BadCount, func() { e.Arrows[3].Boxes = nil }},
		{api.Fair, func() {}},
	} {
		if f := face.CheckEnd(e); f != x.want {
			t.Fatal(i, f, e)
		}
		x.repair()
	}
}

// P2.3: what is left of boxes, and the fouls.
func TestNarrow(t *testing.T) {
	for i, x := range []struct {
		arrow int
		b     api.FaceBox
		want  []api.FaceBox
		f     api.Foul
	}{
		{0, box(2, -5, 9, 5), []api.FaceBox{box(2, 0, 3, 0)}, api.Fair},
		{0, box(-300, -300, 300, 300), []api.FaceBox{box(1, 0, 3, 0)}, api.Fair},
		{0, spot(1, 0), []api.FaceBox{spot(1, 0)}, api.Fair},
		{1, box(0, 7, 300, 300), []api.FaceBox{spot(40, 7)}, api.Fair},
		{2, box(50, -1, 200, 1), []api.FaceBox{spot(100, 0)}, api.Fair},
		{2, box(0, 0, 100, 0), []api.FaceBox{spot(0, 0), spot(100, 0)}, api.Fair},
		{2, box(-9, 1, 9, 9), []api.FaceBox{spot(0, 1)}, api.Fair},
		{0, box(4, 0, 5, 0), nil, api.Against},
		{0, box(1, 1, 3, 1), nil, api.Against},
		{0, box(-1, 0, 0, 0), nil, api.Against},
		{2, box(1, 0, 99, 300), nil, api.Against},
		{3, box(40, 5, 40, 7), nil, api.Against},
		{0, box(3, 0, 2, 0), nil, api.OffLimits},
		{0, box(3, 0, 3, -1), nil, api.OffLimits},
		{0, box(0, 0, 301, 0), nil, api.OffLimits},
		{0, box(-301, 0, 1, 0), nil, api.OffLimits},
		{0, box(0, -301, 1, 0), nil, api.OffLimits},
		{0, box(0, 0, 1, 301), nil, api.OffLimits},
		{3, box(0, -301, 0, 0), nil, api.OffLimits},
		{4, box(0, 0, 301, 0), nil, api.Unknown},
		{-1, spot(0, 0), nil, api.Unknown},
		{math.MaxInt, spot(0, 0), nil, api.Unknown},
	} {
		e, want := exampleEnd(), api.FaceEnd{}
		if x.f == api.Fair {
			want = exampleEnd()
			want.Arrows[x.arrow].Boxes = x.want
		}
		o, f := face.Narrow(e, x.arrow, x.b)
		if f != x.f || !sameEnd(o, want) {
			t.Error(i, o, f)
		}
		if !sameEnd(e, exampleEnd()) {
			t.Error(i, "the argument was changed", e)
		}
	}
	lostOne := withArrows(exampleEnd(), lost())
	if o, f := face.Narrow(lostOne, 0, box(-300, -300, 300, 300)); f != api.Against || !sameEnd(o, api.FaceEnd{}) {
		t.Error(o, f)
	}
	bad := exampleEnd()
	bad.Arrows[3].In = 3
	if o, f := face.Narrow(bad, 9, box(1, 0, 0, 0)); f != api.Unknown || !sameEnd(o, api.FaceEnd{}) {
		t.Error(o, f)
	}
	bad.Target.Spots = nil
	if o, f := face.Narrow(bad, 9, box(1, 0, 0, 0)); f != api.BadCount || !sameEnd(o, api.FaceEnd{}) {
		t.Error(o, f)
	}
}

// R4: an end that was narrowed shares no memory with the one before, nor do its lists with each other.
func TestNarrowSharesNothing(t *testing.T) {
	e := exampleEnd()
	o, f := face.Narrow(e, 0, box(2, 0, 3, 0))
	fair(t, f)
	for i := range o.Arrows {
		for j := range o.Arrows[i].Boxes {
			o.Arrows[i].Boxes[j] = spot(9, 9)
		}
		o.Arrows[i].Boxes = append(o.Arrows[i].Boxes, spot(8, 8))
		o.Arrows[i].Shaft = 7
	}
	for i := range o.Target.Rings {
		o.Target.Rings[i].Value = 1
	}
	for i := range o.Target.Spots {
		o.Target.Spots[i].X = 1
	}
	if !sameEnd(e, exampleEnd()) {
		t.Error("memory is shared", e)
	}
}

// randomNarrow returns an end of which the place of one hole is known better.
func randomNarrow(t *testing.T, r *rand.Rand, e api.FaceEnd) (o api.FaceEnd, arrow int) {
	t.Helper()
	holes := holesOf(e)
	for {
		arrow = holes[r.Intn(len(holes))]
		b := e.Arrows[arrow].Boxes[0]
		x, y := b.X.Min+r.Intn(3), b.Y.Min+r.Intn(3)
		o, f := face.Narrow(e, arrow, box(x-r.Intn(3), y-r.Intn(3), x+r.Intn(30), y+r.Intn(2)))
		if f == api.Fair {
			return o, arrow
		}
		if f != api.Against || !sameEnd(o, api.FaceEnd{}) {
			t.Fatal(o, f)
		}
	}
}

// P2.7, P3: Narrow never adds a score or a total; what was certain stays so.
func TestNarrowKeepsCertain(t *testing.T) {
	r := rand.New(rand.NewSource(31))
	changed := 0
	for range 400 {
		e := randomEnd(r)
		if len(holesOf(e)) == 0 {
			continue
		}
		o, _ := randomNarrow(t, r, e)
		before, after := totals(t, e), totals(t, o)
		if !isPart(after, before) || len(after) == 0 {
			t.Fatal(e, o, before, after)
		}
		for i := range e.Arrows {
			if list := scores(t, o, i); !isPart(list, scores(t, e, i)) || len(list) == 0 {
				t.Fatal(e, o, i, list)
			}
			a, _ := face.Lines(e, i)
			b, _ := face.Lines(o, i)
			if !isPart(b, a) {
				t.Fatal(e, o, i, a, b)
			}
			for value := range api.MaxFaceValue + 2 {
				a, _ := face.Reaches(e, i, value)
				b, _ := face.Reaches(o, i, value)
				changed += staysCertain(t, a, b)
			}
			for j := range e.Arrows {
				changed += staysCertain(t, closer(t, e, i, j), closer(t, o, i, j))
			}
		}
		sure, can, _ := face.Nearest(e)
		sureAfter, canAfter, _ := face.Nearest(o)
		if !isPart(sure, sureAfter) || !isPart(canAfter, can) {
			t.Fatal(e, o, sure, can, sureAfter, canAfter)
		}
	}
	if changed == 0 {
		t.Error("nothing has become certain")
	}
}

// isPart says whether all elements of one list are in another one.
func isPart[T comparable](part, all []T) bool {
	for _, x := range part {
		if !slices.Contains(all, x) {
			return false
		}
	}
	return true
}

// staysCertain stops a test if something was certain and is not so any more; it returns 1 if it became certain.
func staysCertain(t *testing.T, before, after api.Sure) int {
	t.Helper()
	if before != api.Maybe && after != before {
		t.Fatal(before, after)
	}
	if before != after {
		return 1
	}
	return 0
}
