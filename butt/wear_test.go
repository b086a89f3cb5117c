package butt_test

import (
	"maps"
	"math/rand"
	"slices"
	"testing"

	"nock/api"
	"nock/butt"
)

// P8.1: the example of the chapter, session by session.
func TestAfterExample(t *testing.T) {
	b := exampleBoss()
	before := spans(12, 12, 0, 0)
	for _, x := range []struct {
		p    []api.ButtTurn
		n    int
		want [2][]api.Span
	}{
		{plan(0, 1, 0, 3), 0, [2][]api.Span{spans(5, 0, 9, 3), before}},
		{plan(0, 1, 0, 3), 1, [2][]api.Span{{only(9), span(0, 2), only(9), only(11)}, before}},
		{plan(0, 1, 0, 3), 2, [2][]api.Span{{only(9), span(6, 8), span(15, 16), only(11)}, before}},
		{plan(0, 2, 0, 2), 2, [2][]api.Span{{span(5, 7), only(0), only(23), span(13, 14)}, before}},
		{plan(0, 1, 1, 2), 2, [2][]api.Span{{only(9), span(0, 2), only(9), only(11)}, {only(12), only(12), only(6), span(6, 7)}}},
		{plan(1, 0, 1, 0), 1, [2][]api.Span{spans(5, 0, 9, 3), {only(20), only(16), span(0, 2), only(0)}}},
	} {
		if l := afterOf(t, b, x.p, x.n); !slices.EqualFunc(l, x.want[:], slices.Equal) {
			t.Error(x.p, x.n, l)
		}
	}
	if l := afterOf(t, withBoss(func(b *api.ButtBoss) { b.Sessions = nil }), nil, 0); !slices.EqualFunc(l, [][]api.Span{spans(5, 0, 9, 3), before}, slices.Equal) {
		t.Error(l)
	}
}

// P8.1: what is said of the plans of the chapter, with different limits.
func TestWorstExample(t *testing.T) {
	for _, x := range []struct {
		limit   int
		p       []api.ButtTurn
		worst   api.Span
		holds   api.Sure
		spreads [2]api.Span
		replace replaced
	}{
		{20, plan(0, 1, 0, 3), span(15, 16), yes, [2]api.Span{span(7, 10), only(12)}, replaced{}},
		{16, plan(0, 1, 0, 3), span(15, 16), yes, [2]api.Span{span(7, 10), only(12)}, replaced{}},
		{15, plan(0, 1, 0, 3), span(15, 16), maybe, [2]api.Span{span(7, 10), only(12)}, replaced{2, 0, true}},
		{14, plan(0, 1, 0, 3), span(15, 16), no, [2]api.Span{span(7, 10), only(12)}, replaced{2, 0, true}},
		{12, plan(0, 1, 0, 3), span(15, 16), no, [2]api.Span{span(7, 10), only(12)}, replaced{2, 0, true}},
		{11, plan(0, 1, 0, 3), span(15, 16), no, [2]api.Span{span(7, 10), only(12)}, replaced{0, 1, true}},
		{8, plan(0, 1, 0, 3), span(15, 16), no, [2]api.Span{span(7, 10), only(12)}, replaced{0, 0, true}},
		{0, plan(0, 1, 0, 3), span(15, 16), no, [2]api.Span{span(7, 10), only(12)}, replaced{0, 0, true}},
		{20, plan(0, 2, 0, 2), only(23), no, [2]api.Span{only(23), only(12)}, replaced{2, 0, true}},
		{12, plan(0, 2, 0, 2), only(23), no, [2]api.Span{only(23), only(12)}, replaced{1, 0, true}},
		{12, plan(0, 1, 1, 2), only(12), yes, [2]api.Span{span(9, 11), only(6)}, replaced{}},
	} {
		b := withBoss(func(b *api.ButtBoss) { b.Limit = x.limit })
		if y := worstOf(t, b, x.p); y != x.worst {
			t.Error(x, y)
		}
		if y := holdsOf(t, b, x.p); y != x.holds {
			t.Error(x, y)
		}
		for i, want := range x.spreads {
			if y := spreadOf(t, b, x.p, i); y != want {
				t.Error(x, i, y)
			}
		}
		if y := replaceOf(t, b, x.p); y != x.replace {
			t.Error(x, y)
		}
	}
}

// P8.1: the ends of one quarter are no difference.
func TestSpreadOfOneQuarter(t *testing.T) {
	for want, load := range map[api.Span][]api.Span{
		span(0, 5):  {span(0, 10), only(5), only(5), only(5)},
		span(0, 10): {span(0, 10), span(0, 9), only(5), only(5)},
		span(2, 9):  {span(1, 10), only(3), only(1), only(3)},
		span(5, 9):  {only(7), span(0, 3), span(1, 9), only(2)},
		span(0, 0):  spans(3, 3, 3, 3),
		span(9, 9):  spans(3, 3, 12, 3),
		span(0, 7):  {span(0, 7), span(0, 7), span(0, 7), span(0, 7)},
	} {
		b := api.ButtBoss{Layers: []api.ButtLayer{layer(2, 2, 2, 2)}, Sessions: []api.ButtSession{session(load...)}}
		for turn := range 4 {
			if x := spreadOf(t, b, plan(0, turn), 0); x != want {
				t.Error(load, turn, x, want)
			}
		}
	}
}

// P8.1: what is as great as can be.
func TestGreatWear(t *testing.T) {
	b := greatBoss()
	p := plan(0, 3, 0, 3, 0, 3, 0, 3)
	if x := worstOf(t, b, p); x != span(3996, 4995) {
		t.Error(x)
	}
	if x := holdsOf(t, b, p); x != yes {
		t.Error(x)
	}
	b.Limit = 4994
	if x := replaceOf(t, b, p); x != (replaced{4, 0, true}) || holdsOf(t, b, p) != maybe {
		t.Error(x)
	}
}

// sureOf returns what is to be said of something that is so in some of the truths.
func sureOf(seen numbers) api.Sure {
	switch {
	case seen[1] && seen[0]:
		return maybe
	case seen[1]:
		return yes
	}
	return no
}

// replacedIn returns after how many sessions a wear is above the limit in some truth, and the first layer that has one.
func replacedIn(b api.ButtBoss, p []api.ButtTurn) replaced {
	for n := range len(p) + 1 {
		for layer, quarters := range seenAfter(b, p, n) {
			for _, seen := range quarters {
				if slices.Max(slices.Collect(maps.Keys(seen))) > b.Limit {
					return replaced{n, layer, true}
				}
			}
		}
	}
	return replaced{}
}

// nearLimit returns a boss whose limit is near to the greatest wear of a plan.
func nearLimit(t *testing.T, r *rand.Rand, b api.ButtBoss, p []api.ButtTurn) api.ButtBoss {
	t.Helper()
	x := worstOf(t, b, p)
	b.Limit = max(0, x.Min-1+r.Intn(x.Max-x.Min+2))
	return b
}

// checkAfter compares After with all truths: each number of its spans is one of a truth, and no other one is.
func checkAfter(t *testing.T, b api.ButtBoss, p []api.ButtTurn) {
	t.Helper()
	for n := range len(p) + 1 {
		seen, l := seenAfter(b, p, n), afterOf(t, b, p, n)
		if len(l) != len(b.Layers) {
			t.Fatal(b, p, n, l)
		}
		for layer, quarters := range l {
			if len(quarters) != 4 {
				t.Fatal(b, p, n, l)
			}
			for q, x := range quarters {
				if y := seen[layer][q]; x != y.span() || len(y) != x.Max-x.Min+1 {
					t.Fatal(b, p, n, layer, q, x, y)
				}
			}
		}
	}
}

// P8.1, P8.6, P2: what is returned is what is so in the truths, and each end is that of one.
func TestWearInTruths(t *testing.T) {
	r := rand.New(rand.NewSource(81))
	many := make(map[api.Sure]int)
	found := 0
	for range 1200 {
		b := randomBoss(r, small)
		p := randomPlan(r, b)
		if r.Intn(2) == 0 {
			b = nearLimit(t, r, b, p)
		}
		checkAfter(t, b, p)
		if x, want := worstOf(t, b, p), seenOf(b, func(l loads) int { return greatestIn(b, p, l) }).span(); x != want {
			t.Fatal(b, p, x, want)
		}
		for layer := range b.Layers {
			want := seenOf(b, func(l loads) int {
				wear := wearIn(b, p, len(p), l)[layer]
				return slices.Max(wear) - slices.Min(wear)
			}).span()
			if x := spreadOf(t, b, p, layer); x != want {
				t.Fatal(b, p, layer, x, want)
			}
		}
		holds := sureOf(seenOf(b, func(l loads) int {
			if greatestIn(b, p, l) <= b.Limit {
				return 1
			}
			return 0
		}))
		if x := holdsOf(t, b, p); x != holds {
			t.Fatal(b, p, x, holds)
		}
		many[holds]++
		x, want := replaceOf(t, b, p), replacedIn(b, p)
		if x != want {
			t.Fatal(b, p, x, want)
		}
		if x.n > 0 && x.n < len(p) {
			found++
		}
	}
	if many[yes] < 50 || many[no] < 50 || many[maybe] < 50 || found < 50 {
		t.Error("too few of a kind", many, found)
	}
}

// P8.8: nothing is above the limit before the session that Replace returns; a plan surely holds just if there is nothing to replace.
func TestReplace(t *testing.T) {
	r := rand.New(rand.NewSource(82))
	found := 0
	for range 2000 {
		b := randomBoss(r, pick(r, []scale{small, middle, great}))
		p := randomPlan(r, b)
		if r.Intn(2) == 0 {
			b = nearLimit(t, r, b, p)
		}
		x := replaceOf(t, b, p)
		if x.found == (holdsOf(t, b, p) == yes) {
			t.Fatal(b, p, x)
		}
		for n := range len(p) + 1 {
			for layer, quarters := range afterOf(t, b, p, n) {
				canBreak := slices.ContainsFunc(quarters, func(y api.Span) bool { return y.Max > b.Limit })
				before := !x.found || n < x.n || n == x.n && layer < x.layer
				if before && canBreak || x.found && n == x.n && layer == x.layer && !canBreak {
					t.Fatal(b, p, x, n, layer)
				}
			}
		}
		if x.found {
			found++
		}
	}
	if found < 200 || found > 1800 {
		t.Error("too few of a kind", found)
	}
}

// P8.1, R1: the fouls of the arguments, each after those before it.
func TestWearFouls(t *testing.T) {
	bad := withBoss(func(b *api.ButtBoss) { b.Layers[0].Wear = nil })
	for i, x := range []struct {
		b        api.ButtBoss
		p        []api.ButtTurn
		n, layer int
		want     [3]api.Foul
	}{
		{exampleBoss(), plan(0, 0, 0, 0), 2, 1, [3]api.Foul{}},
		{exampleBoss(), plan(0, 0, 0, 0), 0, 0, [3]api.Foul{}},
		{exampleBoss(), plan(0, 0, 0, 0), 3, 2, [3]api.Foul{api.OffLimits, api.Unknown, api.Fair}},
		{exampleBoss(), plan(0, 0, 0, 0), -1, -1, [3]api.Foul{api.OffLimits, api.Unknown, api.Fair}},
		{exampleBoss(), plan(0, 0, 2, 0), 3, 2, [3]api.Foul{api.Unknown, api.Unknown, api.Unknown}},
		{exampleBoss(), plan(0, 0, 0, 4), 3, 2, [3]api.Foul{api.OffLimits, api.OffLimits, api.OffLimits}},
		{exampleBoss(), plan(1, 0, 0, 0), 3, 2, [3]api.Foul{api.Against, api.Against, api.Against}},
		{exampleBoss(), plan(0, 0), 1, 0, [3]api.Foul{api.BadCount, api.BadCount, api.BadCount}},
		{bad, plan(2, 0), 3, 2, [3]api.Foul{api.BadCount, api.BadCount, api.BadCount}},
	} {
		after, f := butt.After(x.b, x.p, x.n)
		if f != x.want[0] || f != api.Fair && len(after) > 0 {
			t.Error(i, after, f)
		}
		spread, f := butt.Spread(x.b, x.p, x.layer)
		if f != x.want[1] || f != api.Fair && spread != (api.Span{}) {
			t.Error(i, spread, f)
		}
		worst, f := butt.Worst(x.b, x.p)
		if f != x.want[2] || f != api.Fair && worst != (api.Span{}) {
			t.Error(i, worst, f)
		}
		holds, f := butt.Holds(x.b, x.p)
		if f != x.want[2] || f != api.Fair && holds != maybe {
			t.Error(i, holds, f)
		}
		n, layer, found, f := butt.Replace(x.b, x.p)
		if f != x.want[2] || f != api.Fair && (n != 0 || layer != 0 || found) {
			t.Error(i, n, layer, found, f)
		}
	}
}
