package butt_test

import (
	"math/rand"
	"slices"
	"testing"

	"nock/api"
	"nock/butt"
)

// layers returns layers, each of which has the same wear everywhere.
func layers(wear ...int) []api.ButtLayer {
	var all []api.ButtLayer
	for _, n := range wear {
		all = append(all, layer(n, n, n, n))
	}
	return all
}

// P8.2: the boss of the chapter, and others like it.
func TestBestExample(t *testing.T) {
	for i, x := range []struct {
		change func(b *api.ButtBoss)
		p      []api.ButtTurn
		worst  int
		swaps  int
		found  bool
	}{
		{func(b *api.ButtBoss) {}, plan(0, 1, 1, 2), 12, 0, true},
		{func(b *api.ButtBoss) { b.Swaps = 0 }, plan(0, 3, 0, 1), 13, 0, true},
		{func(b *api.ButtBoss) { b.Limit = 13 }, plan(0, 1, 1, 2), 12, 0, true},
		{func(b *api.ButtBoss) { b.Limit = 12 }, plan(0, 1, 1, 2), 12, 1, true},
		{func(b *api.ButtBoss) { b.Limit, b.Swaps = 12, 0 }, plan(0, 3, 0, 1), 13, 1, true},
		{func(b *api.ButtBoss) { b.Limit = 11 }, plan(0, 1, 1, 2), 12, 0, false},
		{func(b *api.ButtBoss) { b.Sessions = nil }, nil, 12, 0, true},
		{func(b *api.ButtBoss) { b.Sessions, b.Limit = nil, 11 }, nil, 12, 0, false},
		{func(b *api.ButtBoss) { b.Layers, b.Sessions = b.Layers[:1], b.Sessions[:1] }, plan(0, 1), 11, 0, true},
		// Of layers that are alike the first one is taken, unless another one is in front.
		{func(b *api.ButtBoss) { b.Layers, b.Limit = layers(9, 0, 0), 9 }, plan(1, 0, 1, 2), 9, 1, true},
		{func(b *api.ButtBoss) { b.Layers, b.Limit = layers(9, 0, 0), 8 }, plan(1, 0, 1, 2), 9, 0, false},
		{func(b *api.ButtBoss) { b.Layers, b.Limit = layers(9, 9, 0), 16 }, plan(2, 0, 2, 2), 9, 1, true},
		{func(b *api.ButtBoss) { b.Layers, b.Limit, b.Swaps = layers(9, 0, 0), 16, 0 }, plan(0, 0, 0, 2), 17, 1, true},
		{func(b *api.ButtBoss) { b.Layers, b.Limit = layers(0, 0, 0), 8 }, plan(0, 0, 0, 2), 8, 0, true},
		// The layer in front goes on without a swap, though an earlier one is as worn.
		{func(b *api.ButtBoss) {
			b.Layers, b.Limit = layers(5, 0), 6
			b.Sessions = []api.ButtSession{session(spans(5, 5, 5, 5)...), session(spans(1, 1, 1, 1)...)}
		}, plan(1, 0, 1, 0), 6, 1, true},
		// No turn is better than a lesser one by which the load is the same.
		{func(b *api.ButtBoss) {
			b.Sessions = []api.ButtSession{session(spans(4, 4, 4, 4)...), session(spans(2, 3, 2, 3)...)}
		}, plan(0, 0, 0, 0), 15, 0, true},
	} {
		b := withBoss(x.change)
		if p, worst := bestOf(t, b); !slices.Equal(p, x.p) || worst != x.worst {
			t.Error(i, p, worst)
		}
		if n, found := swapsOf(t, b); n != x.swaps || found != x.found {
			t.Error(i, n, found)
		}
	}
}

// bestIn returns the first of all plans whose greatest wear is least in its worst truth, and this wear.
func bestIn(b api.ButtBoss, worst func(b api.ButtBoss, p []api.ButtTurn) int) (best []api.ButtTurn, wear int) {
	wear = -1
	for p := range allPlans(b, b.Swaps) {
		if n := worst(b, p); wear < 0 || n < wear {
			best, wear = slices.Clone(p), n
		}
	}
	return best, wear
}

// swapsInAll returns the fewest swaps of all plans that hold in every truth.
func swapsInAll(b api.ButtBoss, worst func(b api.ButtBoss, p []api.ButtTurn) int) (n int, found bool) {
	for p := range allPlans(b, len(b.Sessions)) {
		if worst(b, p) <= b.Limit && (!found || swapsIn(p) < n) {
			n, found = swapsIn(p), true
		}
	}
	return n, found
}

// worstByMost returns the greatest wear of a plan if all loads are the greatest.
func worstByMost(b api.ButtBoss, p []api.ButtTurn) int {
	return greatestIn(b, p, mostLoads(b))
}

// withSwaps returns a boss with another number of swaps.
func withSwaps(b api.ButtBoss, swaps int) api.ButtBoss {
	b.Swaps = swaps
	return b
}

func checkBest(t *testing.T, b api.ButtBoss, worst func(b api.ButtBoss, p []api.ButtTurn) int) {
	t.Helper()
	want, least := bestIn(b, worst)
	if p, wear := bestOf(t, b); !slices.Equal(p, want) || wear != least {
		t.Fatal(b, p, wear, want, least)
	}
	fewest, can := swapsInAll(b, worst)
	if n, found := swapsOf(t, b); n != fewest || found != can {
		t.Fatal(b, n, found, fewest, can)
	}
}

// P8.2, P4: Best and Swaps are what they are of all plans and all truths.
func TestBestOfAllPlans(t *testing.T) {
	r := rand.New(rand.NewSource(83))
	swaps := make(map[int]int)
	for range 400 {
		b := randomBoss(r, tiny)
		if r.Intn(2) == 0 {
			_, worst := bestOf(t, withSwaps(b, 4))
			b.Limit = worst + r.Intn(3)
		}
		checkBest(t, b, worstByTruths)
		n, found := swapsOf(t, b)
		if found {
			swaps[n]++
		} else {
			swaps[-1]++
		}
	}
	if swaps[-1] < 20 || swaps[0] < 20 || swaps[1] < 20 {
		t.Error("too few of a kind", swaps)
	}
}

// P8.2, P4: so they are with more sessions, where all loads are the greatest in the worst truth.
func TestBestOfLongPlans(t *testing.T) {
	r := rand.New(rand.NewSource(84))
	swaps := make(map[int]int)
	for range 60 {
		b := randomBoss(r, pick(r, []scale{small, middle, great}))
		// A limit that is near to what can be reached makes the number of swaps matter.
		b.Swaps = r.Intn(3)
		_, worst := bestIn(b, worstByMost)
		b.Limit = max(0, worst-r.Intn(2))
		checkBest(t, b, worstByMost)
		if n, found := swapsOf(t, b); found {
			swaps[n]++
		}
	}
	if swaps[0] == 0 || swaps[1] == 0 || swaps[2] == 0 {
		t.Error("too few of a kind", swaps)
	}
}

// P8.2, P8.7: what Best returns is a right plan, and its wear is the greatest of Worst; no plan is better.
func TestBestIsRight(t *testing.T) {
	r := rand.New(rand.NewSource(85))
	for range 300 {
		b := randomBoss(r, pick(r, []scale{small, middle, great}))
		p, worst := bestOf(t, b)
		if f := butt.CheckPlan(b, p); f != api.Fair || worstOf(t, b, p).Max != worst {
			t.Fatal(b, p, worst, f)
		}
		for range 20 {
			if o := randomPlan(r, b); worstOf(t, b, o).Max < worst {
				t.Fatal(b, p, worst, o)
			}
		}
		b.Limit = worst
		if n, found := swapsOf(t, b); !found || n > swapsIn(p) {
			t.Fatal(b, p, n, found)
		}
	}
}

// P8.7: more swaps that are allowed, and less load, never make Best worse.
func TestBestIsNoWorse(t *testing.T) {
	r := rand.New(rand.NewSource(86))
	bySwaps, byLoad := 0, 0
	for range 300 {
		b := randomBoss(r, pick(r, []scale{small, middle, great}))
		b.Swaps = r.Intn(3)
		_, before := bestOf(t, b)
		if _, after := bestOf(t, withSwaps(b, b.Swaps+1)); after > before {
			t.Fatal(b, before, after)
		} else if after < before {
			bySwaps++
		}
		less := copyBoss(b)
		for _, s := range less.Sessions {
			x := &s.Load[r.Intn(4)]
			x.Max = r.Intn(x.Max + 1)
			x.Min = min(x.Min, x.Max)
		}
		if _, after := bestOf(t, less); after > before {
			t.Fatal(b, less, before, after)
		} else if after < before {
			byLoad++
		}
	}
	if bySwaps < 30 || byLoad < 30 {
		t.Error("too few are better", bySwaps, byLoad)
	}
}

// listedFrom returns numbers listed from another one on.
func listedFrom(numbers []int, from int) []int {
	return slices.Concat(numbers[from:], numbers[:from])
}

// P8.7: a layer that is turned before changes nothing of the worst wear, nor does the order of sessions, if swaps do not matter.
func TestBestTurnedBefore(t *testing.T) {
	r := rand.New(rand.NewSource(87))
	for range 300 {
		b := randomBoss(r, pick(r, []scale{small, middle, great}))
		b = withSwaps(b, 4)
		_, before := bestOf(t, b)
		turned := copyBoss(b)
		l := &turned.Layers[r.Intn(len(turned.Layers))]
		l.Wear = listedFrom(l.Wear, 1+r.Intn(3))
		if _, after := bestOf(t, turned); after != before {
			t.Fatal(b, turned, before, after)
		}
		mixed := copyBoss(b)
		r.Shuffle(len(mixed.Sessions), func(i, j int) {
			mixed.Sessions[i], mixed.Sessions[j] = mixed.Sessions[j], mixed.Sessions[i]
		})
		if _, after := bestOf(t, mixed); after != before {
			t.Fatal(b, mixed, before, after)
		}
	}
}

// P8.2: the fouls of a boss, and what is returned with them.
func TestBestFouls(t *testing.T) {
	for want, b := range map[api.Foul]api.ButtBoss{
		api.BadCount:  {},
		api.OffLimits: withBoss(func(b *api.ButtBoss) { b.Limit = -1 }),
	} {
		if p, worst, f := butt.Best(b); len(p) > 0 || worst != 0 || f != want {
			t.Error(p, worst, f)
		}
		if n, found, f := butt.Swaps(b); n != 0 || found || f != want {
			t.Error(n, found, f)
		}
	}
}
