package arrow_test

import (
	"math"
	"math/rand"
	"slices"
	"testing"

	"nock/api"
	"nock/arrow"
)

// P1.4: marks of the example, and fouls of a distance.
func TestMarkAtAndBest(t *testing.T) {
	for _, x := range []struct {
		at        int
		want      api.Span
		best, off int
		f         api.Foul
	}{
		{10, to(30, 32), 31, 1, api.Fair},
		{20, to(55, 60), 57, 3, api.Fair},
		{30, to(93, 100), 96, 4, api.Fair},
		{25, to(73, 80), 76, 4, api.Fair},
		{14, to(38, 48), 43, 5, api.Fair},
		{0, to(-10, 12), 1, 11, api.Fair},
		{90, to(213, 340), 276, 64, api.Fair},
		{91, one(0), 0, 0, api.OffLimits},
		{-1, one(0), 0, 0, api.OffLimits},
		{math.MinInt, one(0), 0, 0, api.OffLimits},
	} {
		if y, f := arrow.MarkAt(exampleCard(), x.at); y != x.want || f != x.f {
			t.Error("MarkAt", x, y, f)
		}
		if mark, off, f := arrow.Best(exampleCard(), x.at); mark != x.best || off != x.off || f != x.f {
			t.Error("Best", x, mark, off, f)
		}
	}
}

// P1.4: of two best marks the lesser one, also below 0.
func TestBestBelowZero(t *testing.T) {
	for _, x := range []struct {
		span      api.Span
		mark, off int
	}{
		{to(10, 13), 1, 2},
		{to(10, 12), 1, 1},
		{to(0, 9), -6, 5},
		{to(0, 8), -6, 4},
		{to(5, 12), -2, 4},
		{one(4), -6, 0},
	} {
		c := api.SightCard{Rule: api.SightRule{Least: 10, Most: 10}, Shots: []api.SightShot{{At: 1, Mark: x.span}}}
		if mark, off, f := arrow.Best(c, 0); mark != x.mark || off != x.off || f != api.Fair {
			t.Error(x, mark, off, f)
		}
	}
}

// P1.4: a hit in all truths, in none, or in some.
func TestHits(t *testing.T) {
	for _, x := range []struct {
		at, mark, within int
		want             api.Sure
		f                api.Foul
	}{
		{25, 76, 4, api.Yes, api.Fair},
		{25, 77, 4, api.Yes, api.Fair},
		{25, 75, 4, api.Maybe, api.Fair},
		{25, 78, 4, api.Maybe, api.Fair},
		{25, 76, 3, api.Maybe, api.Fair},
		{25, 90, 5, api.No, api.Fair},
		{25, 90, 9, api.No, api.Fair},
		{25, 90, 10, api.Maybe, api.Fair},
		{25, 90, 17, api.Yes, api.Fair},
		{25, 90, 16, api.Maybe, api.Fair},
		{25, 72, 0, api.No, api.Fair},
		{25, 73, 0, api.Maybe, api.Fair},
		{25, 80, 0, api.Maybe, api.Fair},
		{25, 81, 0, api.No, api.Fair},
		{25, 81, 1, api.Maybe, api.Fair},
		{25, 70, 3, api.Maybe, api.Fair},
		{25, 70, 2, api.No, api.Fair},
		{0, -1, 13, api.Yes, api.Fair},
		{0, -1, 12, api.Maybe, api.Fair},
		{25, 99999, 99999, api.Yes, api.Fair},
		{25, -99999, 99999, api.No, api.Fair},
		{25, 100000, 0, api.Maybe, api.OffLimits},
		{25, -100000, 0, api.Maybe, api.OffLimits},
		{25, 0, -1, api.Maybe, api.OffLimits},
		{25, 0, 100000, api.Maybe, api.OffLimits},
		{91, 0, 0, api.Maybe, api.OffLimits},
		{-1, 0, 0, api.Maybe, api.OffLimits},
		{25, math.MinInt, math.MaxInt, api.Maybe, api.OffLimits},
	} {
		if sure, f := arrow.Hits(exampleCard(), x.at, x.mark, x.within); sure != x.want || f != x.f {
			t.Error(x, sure, f)
		}
	}
	just := api.SightCard{Shots: []api.SightShot{{At: 7, Mark: one(5)}}}
	if sure, f := arrow.Hits(just, 3, 5, 0); sure != api.Yes || f != api.Fair {
		t.Error(sure, f)
	}
}

// P1.4: the first of the distances with the widest span.
func TestWidest(t *testing.T) {
	for _, x := range []struct {
		from, to, at int
		want         api.Span
		f            api.Foul
	}{
		{10, 30, 14, to(38, 48), api.Fair},
		{20, 30, 21, to(57, 64), api.Fair},
		{20, 20, 20, to(55, 60), api.Fair},
		{12, 12, 12, to(34, 40), api.Fair},
		{0, 90, 90, to(213, 340), api.Fair},
		{0, 30, 0, to(-10, 12), api.Fair},
		{30, 10, 0, one(0), api.OutOfOrder},
		{-1, 5, 0, one(0), api.OffLimits},
		{5, -1, 0, one(0), api.OffLimits},
		{95, 91, 0, one(0), api.OffLimits},
		{5, 91, 0, one(0), api.OffLimits},
		{91, 5, 0, one(0), api.OffLimits},
	} {
		if at, y, f := arrow.Widest(exampleCard(), x.from, x.to); at != x.at || y != x.want || f != x.f {
			t.Error(x, at, y, f)
		}
	}
	even := api.SightCard{Rule: api.SightRule{Least: 1, Most: 1}, Shots: []api.SightShot{{At: 7, Mark: to(5, 9)}}}
	if at, y, f := arrow.Widest(even, 3, 80); at != 3 || y != to(1, 5) || f != api.Fair {
		t.Error(at, y, f)
	}
}

// P1.4: fouls in their order: those of the card, of arguments, NotEnough, Against.
func TestMarksFouls(t *testing.T) {
	none, clash, bad := exampleCard(), exampleCard(), exampleCard()
	none.Shots, clash.Shots[0].Mark, bad.Shots = nil, one(60), make([]api.SightShot, 9)
	for what, x := range map[string]struct {
		card                api.SightCard
		fair, far, backward api.Foul
	}{
		"no shot":      {none, api.NotEnough, api.OffLimits, api.OutOfOrder},
		"shots clash":  {clash, api.Against, api.OffLimits, api.OutOfOrder},
		"card is foul": {bad, api.BadCount, api.BadCount, api.BadCount},
	} {
		for at, want := range map[int]api.Foul{5: x.fair, 91: x.far, -1: x.far} {
			if y, f := arrow.MarkAt(x.card, at); y != one(0) || f != want {
				t.Error(what, "MarkAt", y, f)
			}
			if sure, f := arrow.Hits(x.card, at, 5, 5); sure != api.Maybe || f != want {
				t.Error(what, "Hits", sure, f)
			}
			if mark, off, f := arrow.Best(x.card, at); mark != 0 || off != 0 || f != want {
				t.Error(what, "Best", mark, off, f)
			}
			if n, y, f := arrow.Widest(x.card, at, at); n != 0 || y != one(0) || f != want {
				t.Error(what, "Widest", n, y, f)
			}
		}
		if n, y, f := arrow.Widest(x.card, 9, 5); n != 0 || y != one(0) || f != x.backward {
			t.Error(what, "Widest", n, y, f)
		}
		if sure, f := arrow.Hits(x.card, 5, 100000, 5); sure != api.Maybe || f != x.far {
			t.Error(what, "Hits", sure, f)
		}
		if sure, f := arrow.Hits(x.card, 5, 5, -1); sure != api.Maybe || f != x.far {
			t.Error(what, "Hits", sure, f)
		}
	}
}

// P1.4: the shots that matter.
func TestMatter(t *testing.T) {
	repeated := withShots(exampleCard(), exampleCard().Shots[0])
	loose := withShots(exampleCard(), api.SightShot{At: 15, Mark: to(0, 200)})
	idle := withShots(exampleCard(), api.SightShot{At: 15, Mark: to(40, 50)})
	lone, none, clash, bad := exampleCard(), exampleCard(), exampleCard(), exampleCard()
	lone.Shots, none.Shots, clash.Shots[0].Mark, bad.Shots[0].At = lone.Shots[:1], nil, one(60), -1
	open := api.SightCard{Rule: api.SightRule{Most: 9}, Shots: []api.SightShot{{At: 9, Mark: to(0, 99999), Wind: 9}}}
	twice := withShots(lone, lone.Shots[0])
	for what, x := range map[string]struct {
		card api.SightCard
		want []int
		f    api.Foul
	}{
		"as it is":         {exampleCard(), []int{0, 1, 2}, api.Fair},
		"one of them here": {repeated, []int{1, 2}, api.Fair},
		"a loose one more": {loose, []int{0, 1, 2}, api.Fair},
		"an idle one more": {idle, []int{0, 1, 2}, api.Fair},
		"just one":         {lone, []int{0}, api.Fair},
		"just a wide one":  {open, []int{0}, api.Fair},
		"the same twice":   {twice, nil, api.Fair},
		"no shot":          {none, nil, api.Fair},
		"shots clash":      {clash, nil, api.Against},
		"card is foul":     {bad, nil, api.OffLimits},
	} {
		if l, f := arrow.Matter(x.card); !slices.Equal(l, x.want) || f != x.f {
			t.Error(what, l, f)
		}
	}
}

// fittingCard returns a card of 1 to n shots that fit.
func fittingCard(t *testing.T, r *rand.Rand, n int) api.SightCard {
	t.Helper()
	c := randomCard(r, 1+r.Intn(n))
	list, f := arrow.Trust(c)
	fair(t, f)
	return only(c, list)
}

// P1.9, P2: the marks that truths give each distance are just those of the spans.
func TestMarksOfTruths(t *testing.T) {
	r := rand.New(rand.NewSource(10))
	for range 60 {
		c := fittingCard(t, r, 5)
		marks, is := tell(c)
		if !is {
			t.Fatal(c)
		}
		for at := range marks {
			x := markAt(t, c, at)
			if x.Min < -window || x.Max > window {
				t.Fatal("the window is too small", c, at, x)
			}
			for m, can := range marks[at] {
				if can != (x.Min <= m-window && m-window <= x.Max) {
					t.Fatal(c, at, x, m-window, can)
				}
			}
		}
	}
}

// P1.9: the spans grow with the distance, by Least to Most at both ends.
func TestMarksGrow(t *testing.T) {
	r := rand.New(rand.NewSource(11))
	for range 100 {
		c := fittingCard(t, r, 6)
		last := markAt(t, c, 0)
		for at := 1; at <= api.MaxSightFar; at++ {
			x := markAt(t, c, at)
			for _, grow := range []int{x.Min - last.Min, x.Max - last.Max} {
				if grow < c.Rule.Least || grow > c.Rule.Most {
					t.Fatal(c, at, last, x)
				}
			}
			last = x
		}
	}
}

// P1.10, P3: one more shot, and less wind and light, never make a span wider.
func TestMarksNarrow(t *testing.T) {
	r := rand.New(rand.NewSource(12))
	for range 100 {
		c := fittingCard(t, r, 6)
		shot := r.Intn(len(c.Shots))
		others := copyCard(c)
		others.Shots = slices.Delete(others.Shots, shot, shot+1)
		calm := copyCard(c)
		calm.Shots[shot].Wind, calm.Shots[shot].Light = 0, 0
		still := c
		still.Rule.Wind, still.Rule.Light = 0, 0
		for at := range api.MaxSightFar + 1 {
			x := markAt(t, c, at)
			inside := func(narrow, wide api.Span) {
				if narrow.Min < wide.Min || narrow.Max > wide.Max {
					t.Fatal(c, at, narrow, wide)
				}
			}
			if len(others.Shots) > 0 {
				inside(x, markAt(t, others, at))
			}
			if fits(t, calm) {
				inside(markAt(t, calm, at), x)
			}
			if fits(t, still) {
				inside(markAt(t, still, at), x)
			}
		}
	}
}

// P1.10, P5: the order of shots does not matter.
func TestMarksInAnyOrder(t *testing.T) {
	r := rand.New(rand.NewSource(13))
	for range 100 {
		c := fittingCard(t, r, 6)
		order := r.Perm(len(c.Shots))
		mixed := only(c, order)
		for at := range api.MaxSightFar + 1 {
			if x, y := markAt(t, c, at), markAt(t, mixed, at); x != y {
				t.Fatal(c, order, at, x, y)
			}
		}
		list, f := arrow.Matter(mixed)
		fair(t, f)
		for i := range list {
			list[i] = order[list[i]]
		}
		slices.Sort(list)
		if want, f := arrow.Matter(c); !slices.Equal(list, want) || f != api.Fair {
			t.Fatal(c, order, list, want, f)
		}
	}
}

// P1.11, P4: no mark is off by less than Best in the worst case, no lesser mark by as little, and Best hits surely within this difference.
func TestBestOfAllMarks(t *testing.T) {
	r := rand.New(rand.NewSource(14))
	for range 100 {
		c := fittingCard(t, r, 4)
		at := r.Intn(api.MaxSightFar + 1)
		x := markAt(t, c, at)
		mark, off, f := arrow.Best(c, at)
		fair(t, f)
		for other := x.Min - 3; other <= x.Max+3; other++ {
			worst := max(other-x.Min, x.Max-other)
			if worst < off || worst == off && other < mark || other == mark && worst != off {
				t.Fatal(c, at, x, mark, off, other, worst)
			}
		}
		if sure, f := arrow.Hits(c, at, mark, off); sure != api.Yes || f != api.Fair {
			t.Fatal(c, at, mark, off, sure, f)
		}
		if off > 0 {
			if sure, f := arrow.Hits(c, at, mark, off-1); sure != api.Maybe || f != api.Fair {
				t.Fatal(c, at, mark, off, sure, f)
			}
		}
	}
}

// P1.4, P2: Hits says what the marks of truths say.
func TestHitsOfTruths(t *testing.T) {
	r := rand.New(rand.NewSource(15))
	for range 300 {
		c := fittingCard(t, r, 4)
		at, within := r.Intn(api.MaxSightFar+1), r.Intn(12)
		x := markAt(t, c, at)
		mark := x.Min - 15 + r.Intn(x.Max-x.Min+30)
		yes, no := false, false
		for m := x.Min; m <= x.Max; m++ {
			if m-mark <= within && mark-m <= within {
				yes = true
			} else {
				no = true
			}
		}
		want := api.Maybe
		if !no {
			want = api.Yes
		} else if !yes {
			want = api.No
		}
		if sure, f := arrow.Hits(c, at, mark, within); sure != want || f != api.Fair {
			t.Fatal(c, at, mark, within, sure, want, f)
		}
	}
}

// P1.4, P4: Widest and Matter say what the spans of all distances say.
func TestWidestAndMatterOfAllMarks(t *testing.T) {
	r := rand.New(rand.NewSource(16))
	for range 100 {
		c := fittingCard(t, r, 5)
		from := r.Intn(api.MaxSightFar + 1)
		till := from + r.Intn(api.MaxSightFar+1-from)
		first, widest := from, markAt(t, c, from)
		for at := from; at <= till; at++ {
			if x := markAt(t, c, at); x.Max-x.Min > widest.Max-widest.Min {
				first, widest = at, x
			}
		}
		if at, x, f := arrow.Widest(c, from, till); at != first || x != widest || f != api.Fair {
			t.Fatal(c, from, till, at, x, first, widest, f)
		}
		var want []int
		for shot := range c.Shots {
			others := copyCard(c)
			others.Shots = slices.Delete(others.Shots, shot, shot+1)
			matters := len(c.Shots) == 1
			for at := 0; at <= api.MaxSightFar && !matters; at++ {
				matters = markAt(t, others, at) != markAt(t, c, at)
			}
			if matters {
				want = append(want, shot)
			}
		}
		if l, f := arrow.Matter(c); !slices.Equal(l, want) || f != api.Fair {
			t.Fatal(c, l, want, f)
		}
	}
}

// R5: the greatest numbers that arise.
func TestGreatestMarks(t *testing.T) {
	c := api.SightCard{
		Rule:  api.SightRule{Least: 0, Most: 999, Wind: 999, Light: 999},
		Shots: []api.SightShot{{At: 0, Mark: one(99999), Wind: 9, Light: 9}},
	}
	if x := markAt(t, c, 90); x != to(99999-17982, 99999+17982+89910) {
		t.Error(x)
	}
	c.Shots[0].At = 90
	if x := markAt(t, c, 0); x != to(99999-17982-89910, 99999+17982) {
		t.Error(x)
	}
}
