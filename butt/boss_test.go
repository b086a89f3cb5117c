package butt_test

import (
	"math"
	"slices"
	"testing"

	"nock/api"
	"nock/butt"
)

// checkBosses looks for the foul of each change of the boss of the chapter.
func checkBosses(t *testing.T, want api.Foul, changes ...func(b *api.ButtBoss)) {
	t.Helper()
	for i, change := range changes {
		if f := butt.CheckBoss(withBoss(change)); f != want {
			t.Error(i, f)
		}
	}
}

// P8.1: bosses without fouls, up to the limits.
func TestFairBosses(t *testing.T) {
	checkBosses(t, api.Fair,
		func(b *api.ButtBoss) {},
		func(b *api.ButtBoss) { *b = greatBoss() },
		func(b *api.ButtBoss) { b.Layers = b.Layers[:1] },
		func(b *api.ButtBoss) { b.Layers[0] = layer(0, 0, 0, 0) },
		func(b *api.ButtBoss) { b.Layers[1] = layer(999, 999, 999, 999) },
		func(b *api.ButtBoss) { b.Layers = append(b.Layers, b.Layers[0]) },
		func(b *api.ButtBoss) { b.Sessions = nil },
		func(b *api.ButtBoss) { b.Sessions = b.Sessions[1:] },
		func(b *api.ButtBoss) { b.Sessions = slices.Repeat(b.Sessions, 2) },
		func(b *api.ButtBoss) { b.Sessions[0].Load[0] = span(0, 999) },
		func(b *api.ButtBoss) { b.Sessions[1].Load[3] = only(999) },
		func(b *api.ButtBoss) { b.Limit, b.Swaps = 0, 0 },
		func(b *api.ButtBoss) { b.Limit, b.Swaps = 9999, 4 },
		func(b *api.ButtBoss) { b.Sessions, b.Swaps = nil, 4 })
}

// P8.1: each foul of a boss.
func TestBossFouls(t *testing.T) {
	checkBosses(t, api.BadCount,
		func(b *api.ButtBoss) { b.Layers = nil },
		func(b *api.ButtBoss) { b.Layers = []api.ButtLayer{} },
		func(b *api.ButtBoss) { b.Layers = slices.Repeat(b.Layers, 2) },
		func(b *api.ButtBoss) { b.Layers[0].Wear = nil },
		func(b *api.ButtBoss) { b.Layers[1].Wear = list(1, 2, 3) },
		func(b *api.ButtBoss) { b.Layers[1].Wear = list(1, 2, 3, 4, 5) },
		func(b *api.ButtBoss) { b.Sessions = slices.Repeat(b.Sessions, 3) },
		func(b *api.ButtBoss) { b.Sessions = append(b.Sessions, slices.Repeat(b.Sessions[:1], 3)...) },
		func(b *api.ButtBoss) { b.Sessions[0].Load = nil },
		func(b *api.ButtBoss) { b.Sessions[1].Load = spans(1, 2, 3) },
		func(b *api.ButtBoss) { b.Sessions[1].Load = spans(1, 2, 3, 4, 5) })
	for _, n := range list(-1, 1000, math.MinInt, math.MaxInt) {
		for q := range 4 {
			checkBosses(t, api.OffLimits,
				func(b *api.ButtBoss) { b.Layers[0].Wear[q] = n },
				func(b *api.ButtBoss) { b.Layers[1].Wear[q] = n })
		}
	}
	for _, x := range []api.Span{span(-1, 5), span(5, 1000), span(6, 5), only(-1), only(1000), span(math.MinInt, 5), span(5, math.MaxInt), span(math.MaxInt, math.MinInt)} {
		for q := range 4 {
			checkBosses(t, api.OffLimits,
				func(b *api.ButtBoss) { b.Sessions[0].Load[q] = x },
				func(b *api.ButtBoss) { b.Sessions[1].Load[q] = x })
		}
	}
	for _, n := range list(-1, 10000, math.MinInt, math.MaxInt) {
		checkBosses(t, api.OffLimits, func(b *api.ButtBoss) { b.Limit = n })
	}
	for _, n := range list(-1, 5, math.MinInt, math.MaxInt) {
		checkBosses(t, api.OffLimits, func(b *api.ButtBoss) { b.Swaps = n })
	}
}

// P8.1, R1: of several fouls the first one: what is before it is mended step by step.
func TestBossFoulOrder(t *testing.T) {
	b := api.ButtBoss{Layers: make([]api.ButtLayer, 4), Sessions: make([]api.ButtSession, 5), Limit: -1, Swaps: 5}
	for i, x := range []struct {
		want api.Foul
		mend func()
	}{
		{api.BadCount, func() { b.Layers = []api.ButtLayer{layer(1, 2, -3, 4), layer(1, 2)} }},
		{api.OffLimits, func() { b.Layers[0].Wear[2] = 3 }},
		{api.BadCount, func() { b.Layers[1].Wear = list(1, 2, 3, 1000) }},
		{api.OffLimits, func() { b.Layers[1].Wear[3] = 999 }},
		{api.BadCount, func() {
			b.Sessions = []api.ButtSession{session(only(1), only(1), span(2, 1), only(1)), session(only(1000))}
		}},
		{api.OffLimits, func() { b.Sessions[0].Load[2] = only(1) }},
		{api.BadCount, func() { b.Sessions[1].Load = spans(0, -1, 0, 0) }},
		{api.OffLimits, func() { b.Sessions[1].Load[1] = only(0) }},
		{api.OffLimits, func() { b.Limit = 0 }},
		{api.OffLimits, func() { b.Swaps = 0 }},
		{api.Fair, func() {}},
	} {
		if f := butt.CheckBoss(b); f != x.want {
			t.Error(i, f, x.want)
		}
		x.mend()
	}
}

// P8.1: plans, and their fouls in order.
func TestCheckPlan(t *testing.T) {
	three := func(b *api.ButtBoss) { b.Layers, b.Sessions, b.Swaps = greatBoss().Layers, greatBoss().Sessions, 2 }
	same := func(b *api.ButtBoss) {}
	for i, x := range []struct {
		change func(b *api.ButtBoss)
		p      []api.ButtTurn
		want   api.Foul
	}{
		{same, plan(0, 0, 0, 3), api.Fair}, {same, plan(0, 0, 1, 0), api.Fair}, {same, plan(1, 0, 1, 0), api.Fair}, {same, plan(1, 0, 0, 0), api.Against},
		{same, nil, api.BadCount}, {same, plan(0, 0), api.BadCount}, {same, plan(9, 9), api.BadCount}, {same, plan(0, 0, 0, 0, 0, 0), api.BadCount},
		{same, plan(2, 0, 0, 0), api.Unknown}, {same, plan(0, 0, 2, 0), api.Unknown}, {same, plan(-1, 0, 0, 0), api.Unknown}, {same, plan(0, 0, math.MinInt, 0), api.Unknown}, {same, plan(math.MaxInt, 0, 0, 0), api.Unknown},
		{same, plan(0, 4, 0, 0), api.OffLimits}, {same, plan(0, 0, 0, -1), api.OffLimits}, {same, plan(0, math.MaxInt, 0, 0), api.OffLimits}, {same, plan(0, 0, 0, math.MinInt), api.OffLimits},
		{same, plan(2, 4, 0, 0), api.Unknown}, {same, plan(0, 4, 2, 0), api.OffLimits}, {same, plan(1, 0, 0, 4), api.OffLimits}, {same, plan(1, 0, 2, 0), api.Unknown},
		{func(b *api.ButtBoss) { b.Swaps = 0 }, plan(0, 1, 0, 1), api.Fair}, {func(b *api.ButtBoss) { b.Swaps = 0 }, plan(1, 1, 1, 1), api.Against}, {func(b *api.ButtBoss) { b.Swaps = 0 }, plan(0, 1, 1, 1), api.Against},
		{func(b *api.ButtBoss) { b.Swaps = 2 }, plan(1, 1, 0, 1), api.Fair},
		{func(b *api.ButtBoss) { b.Layers = b.Layers[:1] }, plan(1, 1, 0, 1), api.Unknown},
		{func(b *api.ButtBoss) { b.Sessions = nil }, nil, api.Fair}, {func(b *api.ButtBoss) { b.Sessions = nil }, plan(0, 0), api.BadCount},
		{three, plan(0, 0, 1, 0, 1, 0, 2, 0), api.Fair}, {three, plan(2, 0, 2, 0, 0, 0, 0, 0), api.Fair}, {three, plan(2, 0, 1, 0, 1, 0, 2, 0), api.Against}, {three, plan(0, 0, 1, 0, 0, 0, 1, 0), api.Against}, {three, plan(1, 0, 2, 0, 2, 0, 2, 0), api.Fair}, {three, plan(1, 0, 2, 0, 0, 0, 0, 0), api.Against},
		{func(b *api.ButtBoss) { b.Limit = -1 }, nil, api.OffLimits}, {func(b *api.ButtBoss) { b.Layers = nil }, plan(0, 4, 0, 4), api.BadCount},
	} {
		if f := butt.CheckPlan(withBoss(x.change), x.p); f != x.want {
			t.Error(i, f, x.want)
		}
	}
}
