package line_test

import (
	"math/rand"
	"testing"

	"nock/api"
	"nock/line"
)

// P6.2: the examples of the chapter.
func TestRiskExamples(t *testing.T) {
	risk := []api.LineMove{give(), give(), give(1), gone(0, before), gone(1, on)}
	if l, found := riskOf(t, examplePlan()); !found || !sameMoves(l, risk) {
		t.Error(l, found)
	}
	risk = []api.LineMove{give(), give(), give(), gone(0, before), give(), give(), give(), gone(1, on)}
	if l, found := riskOf(t, freePlan()); !found || !sameMoves(l, risk) {
		t.Error(l, found)
	}
	if l, found := riskOf(t, withPlan(func(p *api.LinePlan) { p.Fails = nil })); found || len(l) > 0 {
		t.Error(l, found)
	}
}

// P6.2: small plans whose states can be counted by hand.
func TestCount(t *testing.T) {
	call, stop := step(api.LineCall, api.LineFree), step(api.LineStop, api.LineFree)
	one := []api.LinePerson{{Name: "a"}}
	for _, x := range []struct {
		p    api.LinePlan
		want int
	}{
		{api.LinePlan{Posts: 1, Steps: []api.LineStep{call}}, 1},
		{api.LinePlan{Posts: 1, Steps: []api.LineStep{call, stop, call, stop, call}}, 5},
		{api.LinePlan{Posts: 1, People: one, Steps: []api.LineStep{call}}, 3},
		{api.LinePlan{Posts: 1, People: one, Fails: list(0), Steps: []api.LineStep{call}}, 3},
		{api.LinePlan{Posts: 1, People: one, Steps: []api.LineStep{stop}}, 3},
		{api.LinePlan{Posts: 1, People: one, Steps: []api.LineStep{call, stop}}, 7},
		{api.LinePlan{Posts: 1, People: one, Fails: list(0), Steps: []api.LineStep{call, stop}}, 14},
		{api.LinePlan{Posts: 1, People: one, Steps: []api.LineStep{step(api.LineClear, api.LineBack)}}, 2},
	} {
		if n := countOf(t, x.p); n != x.want {
			t.Error(x, n)
		}
	}
}

// checkSearches compares Count, Risk and Way with all runs.
func checkSearches(t *testing.T, r *rand.Rand, p api.LinePlan) (safe bool) {
	t.Helper()
	runs := wantedRuns(p)
	if n := countOf(t, p); n != len(runs) {
		t.Fatal(p, n, len(runs))
	}
	want, found := wantedRisk(runs)
	if l, is := riskOf(t, p); is != found || !sameMoves(l, want) {
		t.Fatal(p, l, is, want, found)
	}
	states := []api.LineState{startOf(t, p)}
	for range 10 {
		states = append(states, randomState(r, p))
	}
	for _, x := range runs {
		if len(states) < 25 {
			states = append(states, x.state)
		}
	}
	for _, s := range states {
		x, is := runs[keyOf(s)]
		if l, found := wayTo(t, p, s); found != is || !sameMoves(l, x.run) {
			t.Fatal(p, s, l, found, x, is)
		}
	}
	return !found
}

// P6.2, P6.6: Count, Risk and Way of random plans, by all runs.
func TestSearches(t *testing.T) {
	r := rand.New(rand.NewSource(21))
	safe, many := 0, 0
	for range 250 {
		p := randomPlan(r, 2, 5)
		many++
		if checkSearches(t, r, p) {
			safe++
		}
	}
	for range 4 {
		p := randomPlan(r, 3, 4)
		many++
		if checkSearches(t, r, p) {
			safe++
		}
	}
	if safe < many/5 || safe > many*19/20 {
		t.Error("of", many, "plans are safe", safe)
	}
}

// P6.6: the run of Risk leads to a dangerous state, and each state has a Way that is no longer than a run to it.
func TestRunsLead(t *testing.T) {
	r := rand.New(rand.NewSource(22))
	risky := 0
	for range 600 {
		p := randomPlan(r, 3, 5)
		risk, found := riskOf(t, p)
		if found {
			risky++
			s, n, f := line.Run(p, risk)
			if fair(t, f); n != len(risk) || !isDangerous(t, p, s) {
				t.Fatal(p, risk, s)
			}
			for i := range risk {
				if s, _, _ := line.Run(p, risk[:i]); isDangerous(t, p, s) {
					t.Fatal("a shorter run is dangerous", p, risk, i)
				}
			}
		}
		s := startOf(t, p)
		var run []api.LineMove
		for range 12 {
			l := movesOf(t, p, s)
			if len(l) == 0 {
				break
			}
			m := pick(r, l)
			run = append(run, m)
			s, _ = line.Step(p, s, m)
			if isDangerous(t, p, s) && (!found || len(run) < len(risk)) {
				t.Fatal("a run that Risk does not know", p, run, risk)
			}
		}
		way, is := wayTo(t, p, s)
		o, _, f := line.Run(p, way)
		if !is || len(way) > len(run) || f != api.Fair || !sameState(o, s) {
			t.Fatal(p, s, way, run)
		}
		if len(way) == len(run) && compareRuns(way, run) > 0 {
			t.Fatal("a less run leads there", p, way, run)
		}
	}
	if risky < 50 {
		t.Error("too few plans are risky", risky)
	}
}

// P6.2: the way to the beginning has no moves, and that to a state that cannot be is none.
func TestWay(t *testing.T) {
	p := examplePlan()
	none := stand(api.LineNone, behind)
	for _, x := range []struct {
		s     api.LineState
		want  []api.LineMove
		found bool
	}{
		{state(0, none, none), nil, true},
		{state(1, stand(api.LineCall, behind), none), []api.LineMove{give(1)}, true},
		{state(1, stand(api.LineCall, on), stand(api.LineCall, on)), []api.LineMove{give(), gone(0, on), gone(1, on)}, true},
		{state(1, none, stand(api.LineCall, behind)), nil, false},
		{state(0, stand(api.LineNone, before), none), nil, false},
		{state(0, stand(api.LineNone, on), none), nil, false},
		{state(1, none, none), nil, false},
	} {
		if l, found := wayTo(t, p, x.s); found != x.found || !sameMoves(l, x.want) {
			t.Error(x, l, found)
		}
	}
	for _, x := range []struct {
		s    api.LineState
		want api.Foul
	}{{state(4, none, none), api.Unknown}, {state(0, none), api.BadCount}, {state(0, none, stand(5, behind)), api.OffLimits}} {
		if l, found, f := line.Way(p, x.s); len(l) > 0 || found || f != x.want {
			t.Error(x, l, found, f)
		}
	}
	// A signal that nobody hears leads to the same state whoever misses it: the least list is that of nobody.
	p.Fails, p.People = list(0, 1), nil
	if l, found := wayTo(t, p, state(2)); !found || !sameMoves(l, []api.LineMove{give(), give()}) {
		t.Error(l, found)
	}
}

// greatPlan is as great as a plan may be.
func greatPlan() api.LinePlan {
	p := api.LinePlan{Posts: 3, Fails: list(0, 1, 2)}
	for i := range 3 {
		p.People = append(p.People, api.LinePerson{Name: letters[i] + "bcdefghijk0", Post: i})
	}
	for _, s := range []api.LineSignal{api.LineCall, api.LineShoot, api.LineStop, api.LineClear, api.LineCall} {
		p.Steps = append(p.Steps, step(s, api.LineFree))
	}
	return p
}

// P1, P6.2: in the greatest plan everybody can have heard each signal last, wherever they are, or nothing yet behind the line, whatever the others have heard.
func TestGreatPlan(t *testing.T) {
	p := greatPlan()
	if n, alone := countOf(t, p), 4*3+1; n != len(p.Steps)*alone*alone*alone {
		t.Error(n)
	}
	// Who is before the line has heard a stop, and then the shot of the next round.
	s := state(4, stand(api.LineShoot, before), stand(api.LineNone, behind), stand(api.LineStop, on))
	if l, found := wayTo(t, p, s); !found || len(l) != 9+2 {
		t.Error(l, found)
	}
	risk := []api.LineMove{give(), give(), give(0), gone(0, on), gone(1, before)}
	if l, found := riskOf(t, p); !found || !sameMoves(l, risk) {
		t.Error(l, found)
	}
	if l, found := repairOf(t, p); found || len(l) > 0 {
		t.Error(l, found)
	}
	if l, found := guardOf(t, p, api.LineBack); found || len(l) > 0 {
		t.Error(l, found)
	}
}
