package line_test

import (
	"math"
	"math/rand"
	"slices"
	"testing"

	"nock/api"
	"nock/line"
)

// P6.1: where somebody can go, by what was heard last and where they are.
func TestGoes(t *testing.T) {
	p := api.LinePlan{Posts: 1, People: []api.LinePerson{{Name: "a"}}, Steps: []api.LineStep{step(api.LineCall, api.LineFree)}}
	for _, x := range []struct {
		heard api.LineSignal
		at    api.LinePlace
		to    []api.LinePlace
	}{
		{api.LineNone, behind, nil},
		{api.LineNone, on, []api.LinePlace{behind}},
		{api.LineNone, before, []api.LinePlace{behind}},
		{api.LineCall, behind, []api.LinePlace{on}},
		{api.LineCall, on, []api.LinePlace{behind}},
		{api.LineCall, before, []api.LinePlace{behind}},
		{api.LineShoot, behind, []api.LinePlace{on}},
		{api.LineShoot, on, []api.LinePlace{behind}},
		{api.LineShoot, before, []api.LinePlace{behind}},
		{api.LineStop, behind, []api.LinePlace{before}},
		{api.LineStop, on, []api.LinePlace{behind, before}},
		{api.LineStop, before, []api.LinePlace{behind}},
		{api.LineClear, behind, nil},
		{api.LineClear, on, []api.LinePlace{behind}},
		{api.LineClear, before, []api.LinePlace{behind}},
	} {
		want := []api.LineMove{give()}
		for _, to := range x.to {
			want = append(want, gone(0, to))
		}
		if l := movesOf(t, p, state(0, stand(x.heard, x.at))); !sameMoves(l, want) {
			t.Error(x, l)
		}
	}
}

// P6.1: which places each need allows.
func TestNeeds(t *testing.T) {
	for _, x := range []struct {
		need   api.LineNeed
		places []api.LinePlace
	}{
		{api.LineFree, []api.LinePlace{behind, on, before}},
		{api.LineNobody, []api.LinePlace{behind, on}},
		{api.LineEmpty, []api.LinePlace{behind, before}},
		{api.LineBack, []api.LinePlace{behind}},
	} {
		p := withPlan(func(p *api.LinePlan) { p.Steps[1].Need = x.need })
		for one := behind; one <= before; one++ {
			for two := behind; two <= before; two++ {
				want := slices.Contains(x.places, one) && slices.Contains(x.places, two)
				l := movesOf(t, p, state(1, stand(0, one), stand(0, two)))
				if is := len(l) > 0 && l[0].Kind == api.LineGive; is != want {
					t.Error(x, one, two, l)
				}
			}
		}
	}
	// Nobody is in the way where nobody is.
	for n := api.LineFree; n <= api.LineBack; n++ {
		p := api.LinePlan{Posts: 1, Steps: []api.LineStep{step(api.LineStop, n)}}
		if l := movesOf(t, p, state(0)); !sameMoves(l, []api.LineMove{give()}) {
			t.Error(n, l)
		}
	}
}

// P6.1: the order of moves.
func TestMoveOrder(t *testing.T) {
	p := freePlan()
	p.People = append(p.People, api.LinePerson{Name: "cid"})
	goes := []api.LineMove{gone(0, behind), gone(0, before), gone(1, on), gone(2, behind)}
	s := state(2, stand(api.LineStop, on), stand(api.LineCall, behind), stand(api.LineShoot, before))
	for _, x := range []struct {
		posts int
		fails []int
		gives []api.LineMove
	}{
		{2, nil, []api.LineMove{give()}},
		{2, list(1), []api.LineMove{give(), give(1)}},
		{2, list(0, 1), []api.LineMove{give(), give(0), give(0, 1), give(1)}},
		{3, list(0, 2), []api.LineMove{give(), give(0), give(0, 2), give(2)}},
		{3, list(0, 1, 2), []api.LineMove{give(), give(0), give(0, 1), give(0, 1, 2), give(0, 2), give(1), give(1, 2), give(2)}},
	} {
		p.Posts, p.Fails = x.posts, x.fails
		if l := movesOf(t, p, s); !sameMoves(l, append(x.gives, goes...)) {
			t.Error(x, l)
		}
	}
}

// P6.1: Moves, Step and Danger of random states, by the chapter's words.
func TestMovesOfRandomStates(t *testing.T) {
	r := rand.New(rand.NewSource(11))
	dangers := 0
	for range 3000 {
		p := randomPlan(r, 3, 5)
		s := randomState(r, p)
		old := copyState(s)
		want := wantedMoves(p, s)
		if l := movesOf(t, p, s); !sameMoves(l, want) {
			t.Fatal(p, s, l, want)
		}
		for _, m := range conceivable() {
			o, f := line.Step(p, s, m)
			if !slices.ContainsFunc(want, func(x api.LineMove) bool { return sameMove(x, m) }) {
				if f != api.Against || !sameState(o, api.LineState{}) {
					t.Fatal(p, s, m, o, f)
				}
			} else if f != api.Fair || !sameState(o, wantedStep(p, s, m)) {
				t.Fatal(p, s, m, o, f)
			}
		}
		first, shooter, is := wantedDanger(s)
		if a, b, c, f := line.Danger(p, s); a != first || b != shooter || c != is || f != api.Fair {
			t.Fatal(p, s, a, b, c, f)
		}
		if is {
			dangers++
		}
		if !sameState(s, old) {
			t.Fatal("an argument was changed", s, old)
		}
	}
	if dangers < 100 {
		t.Error("too few states are dangerous", dangers)
	}
}

// P6.1: what is no move of a state is against it, whatever it is.
func TestNoMoves(t *testing.T) {
	p := withPlan(func(p *api.LinePlan) { p.Posts, p.Fails = 3, list(0, 1) })
	s := state(0, stand(api.LineStop, behind), stand(api.LineNone, behind))
	for _, m := range []api.LineMove{
		give(2), give(0, 2), give(1, 0), give(0, 0), give(1, 1), give(0, 1, 1), give(-1), give(0, -1), give(3), give(0, 64), give(64), give(math.MaxInt), give(math.MinInt),
		{Kind: 2}, {Kind: -1}, {Kind: math.MaxInt},
		{Person: 1}, {Person: -1}, {To: on}, {To: before}, {Missed: list(1), Person: 1}, {Missed: list(1), To: on},
		gone(0, behind), gone(0, on), gone(1, on), gone(1, before), gone(2, before), gone(-1, before), gone(math.MaxInt, before), gone(0, 3), gone(0, -1),
		{Kind: api.LineGo, Missed: list(0), Person: 0, To: before}, {Kind: api.LineGo, Missed: list(9), Person: 0, To: before},
		give(make([]int, 1<<20)...),
	} {
		if o, f := line.Step(p, s, m); !sameState(o, api.LineState{}) || f != api.Against {
			t.Error(m, o, f)
		}
	}
	for _, m := range []api.LineMove{give(), {Missed: []int{}}, give(0), give(1), give(0, 1), gone(0, before), {Kind: api.LineGo, Missed: []int{}, To: before}} {
		if _, f := line.Step(p, s, m); f != api.Fair {
			t.Error(m, f)
		}
	}
}

// P6.1: after the last step the first one follows, also if there is only one.
func TestRoundOfSteps(t *testing.T) {
	for many := range api.MaxLineSteps {
		p := api.LinePlan{Posts: 1, Steps: slices.Repeat([]api.LineStep{step(api.LineCall, api.LineFree)}, many+1)}
		s := startOf(t, p)
		for i := range 2 * (many + 1) {
			if s.Next != i%(many+1) {
				t.Fatal(many, i, s)
			}
			o, f := line.Step(p, s, give())
			fair(t, f)
			s = o
		}
	}
}

// P6.1: runs, and where they end if a move is not possible.
func TestRun(t *testing.T) {
	p := examplePlan()
	begin := startOf(t, p)
	for _, x := range []struct {
		run  []api.LineMove
		want api.LineState
		n    int
		f    api.Foul
	}{
		{nil, begin, 0, api.Fair},
		{[]api.LineMove{give(0)}, begin, 0, api.Against},
		{[]api.LineMove{give(1)}, state(1, stand(api.LineCall, behind), stand(0, behind)), 1, api.Fair},
		{[]api.LineMove{give(1), gone(1, on), give()}, state(1, stand(api.LineCall, behind), stand(0, behind)), 1, api.Against},
		{[]api.LineMove{give(), gone(1, on), give()}, state(2, stand(api.LineShoot, behind), stand(api.LineShoot, on)), 3, api.Fair},
		{[]api.LineMove{give(), give(), give(1), gone(0, before), gone(1, on)}, state(3, stand(api.LineStop, before), stand(api.LineShoot, on)), 5, api.Fair},
		{[]api.LineMove{give(), give(), give(1), gone(0, before), gone(1, on), give()}, state(3, stand(api.LineStop, before), stand(api.LineShoot, on)), 5, api.Against},
		{[]api.LineMove{give(), give(), give(), give(1), give()}, state(1, stand(api.LineCall, behind), stand(api.LineCall, behind)), 5, api.Fair},
	} {
		if s, n, f := line.Run(p, x.run); !sameState(s, x.want) || n != x.n || f != x.f {
			t.Error(x, s, n, f)
		}
	}
	if s, n, f := line.Run(api.LinePlan{}, []api.LineMove{give()}); !sameState(s, api.LineState{}) || n != 0 || f != api.OffLimits {
		t.Error(s, n, f)
	}
}

// P6.1: a run is its steps, one after the other.
func TestRunIsSteps(t *testing.T) {
	r := rand.New(rand.NewSource(12))
	long := 0
	for range 500 {
		p := randomPlan(r, 3, 5)
		s := startOf(t, p)
		var run []api.LineMove
		for range r.Intn(30) {
			l := movesOf(t, p, s)
			if len(l) == 0 {
				break
			}
			m := pick(r, l)
			o, f := line.Step(p, s, m)
			fair(t, f)
			s, run = o, append(run, m)
		}
		if o, n, f := line.Run(p, run); !sameState(o, s) || n != len(run) || f != api.Fair {
			t.Fatal(p, run, o, n, f)
		}
		if o, n, f := line.Run(p, append(run, gone(7, on), give())); !sameState(o, s) || n != len(run) || f != api.Against {
			t.Fatal(p, run, o, n, f)
		}
		if len(run) > 20 {
			long++
		}
	}
	if long < 50 {
		t.Error("too few runs are long", long)
	}
}

// P6.1: who is before the line, and who can shoot.
func TestDanger(t *testing.T) {
	p := examplePlan()
	p.People = append(p.People, api.LinePerson{Name: "cid"})
	none, shoots, stops := stand(0, behind), stand(api.LineShoot, on), stand(api.LineStop, before)
	for _, x := range []struct {
		s              api.LineState
		first, shooter int
		is             bool
	}{
		{state(0, none, none, none), 0, 0, false},
		{state(0, stops, shoots, none), 0, 1, true},
		{state(3, shoots, none, stops), 2, 0, true},
		{state(0, stops, stops, shoots), 0, 2, true},
		{state(0, shoots, shoots, stops), 2, 0, true},
		{state(0, none, stand(0, before), shoots), 1, 2, true},
		{state(0, stand(api.LineShoot, before), none, shoots), 0, 2, true},
		{state(0, stops, stand(api.LineShoot, behind), none), 0, 0, false},
		{state(0, stops, stand(api.LineShoot, before), none), 0, 0, false},
		{state(0, stops, stand(api.LineCall, on), none), 0, 0, false},
		{state(0, stops, stand(api.LineStop, on), none), 0, 0, false},
		{state(0, stops, stand(api.LineClear, on), stand(api.LineNone, on)), 0, 0, false},
		{state(0, none, shoots, shoots), 0, 0, false},
		{state(0, none, stops, stops), 0, 0, false},
	} {
		if a, b, is, f := line.Danger(p, x.s); a != x.first || b != x.shooter || is != x.is || f != api.Fair {
			t.Error(x, a, b, is, f)
		}
	}
}
