package line_test

import (
	"math"
	"slices"
	"testing"

	"nock/api"
	"nock/line"
)

// checkPlans looks for the foul of each change of the plan of the chapter.
func checkPlans(t *testing.T, want api.Foul, changes ...func(p *api.LinePlan)) {
	t.Helper()
	for i, change := range changes {
		if f := line.CheckPlan(withPlan(change)); f != want {
			t.Error(i, f)
		}
	}
}

// P6.1: plans without fouls, up to the limits.
func TestFairPlans(t *testing.T) {
	checkPlans(t, api.Fair,
		func(p *api.LinePlan) {},
		func(p *api.LinePlan) { p.Posts = 3 },
		func(p *api.LinePlan) { p.Posts, p.People, p.Fails = 1, nil, nil },
		func(p *api.LinePlan) { p.Fails = nil },
		func(p *api.LinePlan) { p.Fails = list(0, 1) },
		func(p *api.LinePlan) { p.Posts, p.Fails = 3, list(0, 1, 2) },
		func(p *api.LinePlan) { p.Posts, p.Fails = 3, list(0, 2) },
		func(p *api.LinePlan) { p.People = nil },
		func(p *api.LinePlan) { p.People = append(p.People, api.LinePerson{Name: "abcdefghij01"}) },
		func(p *api.LinePlan) { p.People[1].Post = 0 },
		func(p *api.LinePlan) { p.People[0].Name, p.People[1].Name = "a", "z" },
		func(p *api.LinePlan) { p.People[0].Name, p.People[1].Name = "az0", "za9" },
		func(p *api.LinePlan) { p.Steps = p.Steps[:1] },
		func(p *api.LinePlan) { p.Steps = append(p.Steps, step(api.LineCall, api.LineFree)) })
	for s := api.LineCall; s <= api.LineClear; s++ {
		for n := api.LineFree; n <= api.LineBack; n++ {
			checkPlans(t, api.Fair, func(p *api.LinePlan) { p.Steps[3] = step(s, n) })
		}
	}
}

// P6.1: each foul of a plan.
func TestPlanFouls(t *testing.T) {
	for _, n := range list(0, -1, 4, math.MinInt, math.MaxInt) {
		checkPlans(t, api.OffLimits, func(p *api.LinePlan) { p.Posts = n })
	}
	for _, n := range list(-1, 2, 3, math.MinInt, math.MaxInt) {
		checkPlans(t, api.Unknown,
			func(p *api.LinePlan) { p.Fails = list(n) },
			func(p *api.LinePlan) { p.Fails = list(0, n) },
			func(p *api.LinePlan) { p.People[0].Post = n },
			func(p *api.LinePlan) { p.People[1].Post = n })
	}
	for _, l := range [][]int{list(0, 0), list(1, 0), list(1, 1), list(0, 1, 1), list(0, 1, 0)} {
		checkPlans(t, api.OutOfOrder, func(p *api.LinePlan) { p.Fails = l })
	}
	checkPlans(t, api.BadCount,
		func(p *api.LinePlan) { p.People = slices.Repeat(p.People, 2) },
		func(p *api.LinePlan) { p.People = make([]api.LinePerson, 1<<20) },
		func(p *api.LinePlan) { p.Steps = nil },
		func(p *api.LinePlan) { p.Steps = []api.LineStep{} },
		func(p *api.LinePlan) { p.Steps = slices.Repeat(p.Steps[:3], 2) })
	for _, name := range []string{"", "A", "aB", "1", "1a", "a b", "a_", "ä", "a\n", "\xff", "a\x00", "abcdefghij012", "a`", "a{", "a/", "a:"} {
		checkPlans(t, api.BadName, func(p *api.LinePlan) { p.People[1].Name = name })
	}
	checkPlans(t, api.Twice, func(p *api.LinePlan) { p.People[1].Name = "ann" })
	for _, n := range list(-1, 5, math.MinInt, math.MaxInt) {
		checkPlans(t, api.OffLimits,
			func(p *api.LinePlan) { p.Steps[0].Signal = api.LineSignal(n) },
			func(p *api.LinePlan) { p.Steps[3].Need = api.LineNeed(n) })
	}
	checkPlans(t, api.OffLimits,
		func(p *api.LinePlan) { p.Steps[2].Signal = api.LineNone },
		func(p *api.LinePlan) { p.Steps[2].Need = 4 })
}

// P6.1, R1: of several fouls the first one.
func TestPlanFoulOrder(t *testing.T) {
	p := api.LinePlan{Posts: 4, Fails: list(5), People: make([]api.LinePerson, 4)}
	check := func(want api.Foul) {
		t.Helper()
		if f := line.CheckPlan(p); f != want {
			t.Error(f, want)
		}
	}
	check(api.OffLimits)
	p.Posts = 3
	check(api.Unknown)
	p.Fails = list(1, 1, 5)
	check(api.OutOfOrder)
	p.Fails = list(1, 5, 5)
	check(api.Unknown)
	p.Fails = list(1, -1)
	check(api.Unknown)
	p.Fails = nil
	check(api.BadCount)
	p.People = []api.LinePerson{{Name: "", Post: 9}, {Name: "", Post: 9}}
	check(api.BadName)
	p.People = []api.LinePerson{{Name: "a", Post: 9}, {Name: "a", Post: 9}}
	check(api.Unknown)
	p.People[0].Post = 0
	check(api.Twice)
	p.People[1].Name = "b"
	check(api.Unknown)
	p.People[1].Post = 2
	check(api.BadCount)
	p.Steps = make([]api.LineStep, 6)
	check(api.BadCount)
	p.Steps = make([]api.LineStep, 5)
	check(api.OffLimits)
}

// P6.1: fouls of a state, after those of the plan.
func TestStateFouls(t *testing.T) {
	none := stand(api.LineNone, behind)
	p := examplePlan()
	for _, x := range []struct {
		s    api.LineState
		want api.Foul
	}{
		{state(0, none, none), api.Fair},
		{state(3, none, none), api.Fair},
		{state(3, stand(api.LineClear, before), stand(api.LineCall, on)), api.Fair},
		{state(4, none), api.Unknown},
		{state(-1, none), api.Unknown},
		{state(math.MinInt), api.Unknown},
		{state(math.MaxInt), api.Unknown},
		{state(0), api.BadCount},
		{state(0, stand(9, 9)), api.BadCount},
		{state(0, none, none, none), api.BadCount},
		{state(0, none, stand(5, behind)), api.OffLimits},
		{state(0, none, stand(-1, behind)), api.OffLimits},
		{state(0, stand(math.MaxInt, behind), none), api.OffLimits},
		{state(0, none, stand(api.LineNone, 3)), api.OffLimits},
		{state(0, stand(api.LineNone, -1), none), api.OffLimits},
		{state(0, none, stand(api.LineCall, math.MinInt)), api.OffLimits},
		{state(0, none, stand(256, 256)), api.OffLimits},
	} {
		if f := line.CheckState(p, x.s); f != x.want {
			t.Error(x, f)
		}
		if f := line.CheckState(api.LinePlan{}, x.s); f != api.OffLimits {
			t.Error(x, f)
		}
	}
	p.People = nil
	if f := line.CheckState(p, state(0)); f != api.Fair {
		t.Error(f)
	}
	if f := line.CheckState(p, state(0, none)); f != api.BadCount {
		t.Error(f)
	}
}

// P6.1: the state in the beginning.
func TestStart(t *testing.T) {
	none := stand(api.LineNone, behind)
	for people, want := range []api.LineState{state(0), state(0, none), state(0, none, none)} {
		p := withPlan(func(p *api.LinePlan) { p.People = p.People[:people] })
		if s := startOf(t, p); !sameState(s, want) {
			t.Error(s)
		}
	}
	if s, f := line.Start(withPlan(func(p *api.LinePlan) { p.Steps = nil })); !sameState(s, api.LineState{}) || f != api.BadCount {
		t.Error(s, f)
	}
}
