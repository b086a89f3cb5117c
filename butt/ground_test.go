package butt_test

import (
	"math"
	"math/rand"
	"slices"
	"testing"

	"nock/api"
	"nock/butt"
)

// checkGrounds looks for the foul of each change of the ground of the chapter.
func checkGrounds(t *testing.T, want api.Foul, changes ...func(g *api.ButtGround)) {
	t.Helper()
	for i, change := range changes {
		if f := butt.CheckGround(withGround(change)); f != want {
			t.Error(i, f)
		}
	}
}

// P8.3: grounds without fouls, up to the limits.
func TestFairGrounds(t *testing.T) {
	checkGrounds(t, api.Fair,
		func(g *api.ButtGround) {},
		func(g *api.ButtGround) { *g = greatGround() },
		func(g *api.ButtGround) { g.Stands = nil },
		func(g *api.ButtGround) { g.Archers = nil },
		func(g *api.ButtGround) { *g = api.ButtGround{} },
		func(g *api.ButtGround) { g.Stands[0] = stand("a", 1, 1, 0) },
		func(g *api.ButtGround) { g.Stands[0] = stand("abcdefghij01", 90, 150, 4) },
		func(g *api.ButtGround) { g.Archers[0] = archer("a", 1, 1, 1) },
		func(g *api.ButtGround) { g.Archers[0] = archer("abcdefghij01", 150, 90, 90) },
		func(g *api.ButtGround) { g.Archers[0] = archer("a", 150, 1, 90) },
		func(g *api.ButtGround) { g.Archers[0].Name = "s" },
		func(g *api.ButtGround) { g.Stands[1].Far, g.Stands[1].Size = g.Stands[0].Far, g.Stands[0].Size })
}

// P8.3: each foul of a ground.
func TestGroundFouls(t *testing.T) {
	checkGrounds(t, api.BadCount,
		func(g *api.ButtGround) { g.Stands = make([]api.ButtStand, 5) },
		func(g *api.ButtGround) { g.Archers = make([]api.ButtArcher, 7) },
		func(g *api.ButtGround) { g.Stands = slices.Repeat(g.Stands, 2) },
		func(g *api.ButtGround) { g.Archers = slices.Repeat(g.Archers, 2) })
	for _, name := range []string{"", "A", "aB", "1", "1a", "a b", "a_", "ä", "a\n", "\xff", "a\x00", "abcdefghij012", "a`", "a{", "a/", "a:"} {
		checkGrounds(t, api.BadName,
			func(g *api.ButtGround) { g.Stands[0].Name = name },
			func(g *api.ButtGround) { g.Stands[2].Name = name },
			func(g *api.ButtGround) { g.Archers[0].Name = name },
			func(g *api.ButtGround) { g.Archers[4].Name = name })
	}
	checkGrounds(t, api.Twice,
		func(g *api.ButtGround) { g.Stands[1].Name = "s" },
		func(g *api.ButtGround) { g.Stands[2].Name = "s" },
		func(g *api.ButtGround) { g.Stands[2].Name = "t" },
		func(g *api.ButtGround) { g.Archers[1].Name = "ann" },
		func(g *api.ButtGround) { g.Archers[4].Name = "ann" },
		func(g *api.ButtGround) { g.Archers[4].Name = "dot" })
	for _, n := range list(0, -1, 91, math.MinInt, math.MaxInt) {
		checkGrounds(t, api.OffLimits,
			func(g *api.ButtGround) { g.Stands[0].Far = n },
			func(g *api.ButtGround) { g.Stands[2].Far = n },
			func(g *api.ButtGround) { g.Archers[0].Near = n },
			func(g *api.ButtGround) { g.Archers[4].Far = n },
			func(g *api.ButtGround) { g.Archers[4].Near, g.Archers[4].Far = n, n })
	}
	for _, n := range list(0, -1, 151, math.MinInt, math.MaxInt) {
		checkGrounds(t, api.OffLimits,
			func(g *api.ButtGround) { g.Stands[0].Size = n },
			func(g *api.ButtGround) { g.Archers[4].Size = n })
	}
	for _, n := range list(-1, 5, math.MinInt, math.MaxInt) {
		checkGrounds(t, api.OffLimits,
			func(g *api.ButtGround) { g.Stands[0].Seats = n },
			func(g *api.ButtGround) { g.Stands[2].Seats = n })
	}
	checkGrounds(t, api.OutOfOrder,
		func(g *api.ButtGround) { g.Archers[0].Near, g.Archers[0].Far = 2, 1 },
		func(g *api.ButtGround) { g.Archers[4].Near, g.Archers[4].Far = 90, 89 })
}

// P8.3, R1: of several fouls the first one: what is before it is mended step by step.
func TestGroundFoulOrder(t *testing.T) {
	g := api.ButtGround{Stands: make([]api.ButtStand, 5), Archers: make([]api.ButtArcher, 7)}
	for i, x := range []struct {
		want api.Foul
		mend func()
	}{
		{api.BadCount, func() { g.Stands = []api.ButtStand{stand("a", 5, 5, 5), stand("", 0, 0, -1)} }},
		{api.OffLimits, func() { g.Stands[0].Seats = 4 }},
		{api.BadName, func() { g.Stands[1].Name = "a" }},
		{api.Twice, func() { g.Stands[1].Name = "b" }},
		{api.OffLimits, func() { g.Stands[1].Far = 1 }},
		{api.OffLimits, func() { g.Stands[1].Size = 1 }},
		{api.OffLimits, func() { g.Stands[1].Seats = 0 }},
		{api.BadCount, func() { g.Archers = []api.ButtArcher{archer("a", 5, 6, 5), archer("", 0, 91, 0)} }},
		{api.OutOfOrder, func() { g.Archers[0].Far = 6 }},
		{api.BadName, func() { g.Archers[1].Name = "a" }},
		{api.Twice, func() { g.Archers[1].Name = "b" }},
		{api.OffLimits, func() { g.Archers[1].Size = 1 }},
		{api.OffLimits, func() { g.Archers[1].Near = 2 }},
		{api.OffLimits, func() { g.Archers[1].Far = 1 }},
		{api.OutOfOrder, func() { g.Archers[1].Far = 2 }},
		{api.Fair, func() {}},
	} {
		if f := butt.CheckGround(g); f != x.want {
			t.Error(i, f, x.want)
		}
		x.mend()
	}
}

// P8.3: the stands that the archers of the chapter can use, and the edges of what can be used.
func TestCanExample(t *testing.T) {
	for i, want := range [][]int{list(0), list(1), list(1), list(0), list(0)} {
		if l := canOf(t, exampleGround(), i); !slices.Equal(l, want) {
			t.Error(i, l)
		}
	}
	for _, x := range []struct {
		a    api.ButtArcher
		want []int
	}{
		{archer("a", 80, 50, 70), list(0, 1, 2)},
		{archer("a", 80, 50, 69), list(1)},
		{archer("a", 80, 51, 70), list(0, 2)},
		{archer("a", 81, 50, 70), list(0)},
		{archer("a", 122, 1, 90), list(0)},
		{archer("a", 123, 1, 90), nil},
		{archer("a", 1, 51, 69), nil},
		{archer("a", 1, 70, 70), list(0, 2)},
	} {
		g := withGround(func(g *api.ButtGround) { g.Archers[3] = x.a })
		if l := canOf(t, g, 3); !slices.Equal(l, x.want) {
			t.Error(x, l)
		}
	}
	// A stand without seats can be used all the same.
	if l := canOf(t, withGround(func(g *api.ButtGround) { g.Stands[0].Seats = 0 }), 0); !slices.Equal(l, list(0)) {
		t.Error(l)
	}
}

// P8.3: Can is what it is by the chapter's words.
func TestCan(t *testing.T) {
	r := rand.New(rand.NewSource(88))
	many := make(map[int]int)
	for range 1000 {
		g := randomGround(r)
		for i := range g.Archers {
			var want []int
			for k := range g.Stands {
				if canStand(g, i, k) {
					want = append(want, k)
				}
			}
			if l := canOf(t, g, i); !slices.Equal(l, want) {
				t.Fatal(g, i, l, want)
			}
			many[len(want)]++
		}
	}
	for n := range 4 {
		if many[n] < 50 {
			t.Error("too few of a kind", many)
		}
	}
}

// P8.3, P8.4, R1: the fouls of the arguments, each after those before it.
func TestGroundArguments(t *testing.T) {
	bad := withGround(func(g *api.ButtGround) { g.Archers[4].Name = "" })
	for _, n := range list(-1, 5, 6, math.MinInt, math.MaxInt) {
		for want, g := range map[api.Foul]api.ButtGround{api.Unknown: exampleGround(), api.BadName: bad} {
			if l, f := butt.Can(g, n); len(l) > 0 || f != want {
				t.Error(n, l, f)
			}
			if k, f := butt.Without(g, n); k != 0 || f != want {
				t.Error(n, k, f)
			}
			if k, f := butt.Lack(g, list(0, n)); k != 0 || f != want {
				t.Error(n, k, f)
			}
		}
	}
	for _, n := range list(3, 4) {
		if k, f := butt.Without(exampleGround(), n); k != 0 || f != api.Unknown {
			t.Error(n, k, f)
		}
	}
	if l, f := butt.Can(api.ButtGround{}, 0); len(l) > 0 || f != api.Unknown {
		t.Error(l, f)
	}
	if n, f := butt.Without(api.ButtGround{}, 0); n != 0 || f != api.Unknown {
		t.Error(n, f)
	}
	if l, n, f := butt.Seat(bad); len(l) > 0 || n != 0 || f != api.BadName {
		t.Error(l, n, f)
	}
	if l, f := butt.Proof(bad); len(l) > 0 || f != api.BadName {
		t.Error(l, f)
	}
	if is, f := butt.Proves(bad, nil, list(9)); is || f != api.BadName {
		t.Error(is, f)
	}
}
