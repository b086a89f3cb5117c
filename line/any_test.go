package line_test

import (
	"math"
	"math/rand"
	"reflect"
	"slices"
	"testing"

	"nock/api"
	"nock/line"
)

// anyNumber returns a number that may be of every kind: great, at a limit, or below 0.
func anyNumber(r *rand.Rand) int {
	return pick(r, list(0, 0, 1, 1, 2, 3, 4, 5, 6, 7, 11, 12, 63, 64, 255, 256, 300, 301, 999, 1000, -1, math.MinInt, math.MaxInt))
}

func anyNumbers(r *rand.Rand, most int) []int {
	var all []int
	for range r.Intn(most + 1) {
		all = append(all, anyNumber(r))
	}
	return all
}

func anyName(r *rand.Rand) string {
	return pick(r, []string{"", "a", "b", "B", "1", "a1", "a\n", "\xff", "abcdefghij01", "abcdefghij012"})
}

func anySpan(r *rand.Rand) api.Span { return span(anyNumber(r), anyNumber(r)) }

// anyPlan returns a plan that has fouls often.
func anyPlan(r *rand.Rand) api.LinePlan {
	p := randomPlan(r, 3, 5)
	switch r.Intn(10) {
	case 0:
		p.Posts = anyNumber(r)
	case 1:
		p.Fails = anyNumbers(r, 4)
	case 2:
		p.People = append(p.People, api.LinePerson{Name: anyName(r), Post: anyNumber(r)})
	case 3:
		p.People = slices.Repeat(p.People, 2)
	case 4:
		p.Steps = append(p.Steps, step(api.LineSignal(anyNumber(r)), api.LineNeed(anyNumber(r))))
	case 5:
		p.Steps[0] = step(api.LineSignal(anyNumber(r)), api.LineNeed(anyNumber(r)))
	case 6:
		p.Steps = nil
	}
	return p
}

// anyState returns a state that often is one of a plan.
func anyState(r *rand.Rand, p api.LinePlan) api.LineState {
	s := api.LineState{}
	if len(p.Steps) > 0 {
		s = randomState(r, p)
	}
	switch r.Intn(8) {
	case 0:
		s.Next = anyNumber(r)
	case 1:
		s.People = append(s.People, stand(api.LineSignal(anyNumber(r)), api.LinePlace(anyNumber(r))))
	case 2:
		if len(s.People) > 0 {
			s.People[0] = stand(api.LineSignal(anyNumber(r)), api.LinePlace(anyNumber(r)))
		}
	}
	return s
}

func anyMove(r *rand.Rand) api.LineMove {
	if r.Intn(2) == 0 {
		return pick(r, conceivable())
	}
	return api.LineMove{Kind: api.LineKind(anyNumber(r)), Missed: anyNumbers(r, 3), Person: anyNumber(r), To: api.LinePlace(anyNumber(r))}
}

// anyWatch returns a watch that has fouls often.
func anyWatch(r *rand.Rand) api.LineWatch {
	w := randomWatch(r, 6, 50, 8)
	a := &w.Archers[r.Intn(len(w.Archers))]
	switch r.Intn(12) {
	case 0:
		w.Open = anyNumber(r)
	case 1:
		w.Shut = anyNumber(r)
	case 2:
		w.Count = anyNumber(r)
	case 3:
		w.Archers = slices.Repeat(w.Archers, 2)
	case 4:
		a.Name = anyName(r)
	case 5:
		a.Extra = anyNumber(r)
	case 6:
		a.Shots = append(a.Shots, shot(anySpan(r), anyNumber(r)))
	case 7:
		a.Shots = append(a.Shots, shot(span(0, 5), 3))
	case 8:
		w.Archers = nil
	}
	return w
}

// zero says whether results, and lists in them, are as they must be beside a foul.
func zero(results ...any) bool {
	for _, x := range results {
		if v := reflect.ValueOf(x); !v.IsZero() && (v.Kind() != reflect.Slice || v.Len() > 0) {
			return false
		}
	}
	return true
}

// result is what a call returned: its foul, and all else.
type result struct {
	f    api.Foul
	rest []any
}

// question is what calls are given.
type question struct {
	p      api.LinePlan
	s      api.LineState
	m      api.LineMove
	run    []api.LineMove
	need   api.LineNeed
	w      api.LineWatch
	archer int
}

func anyQuestion(r *rand.Rand) question {
	p := anyPlan(r)
	q := question{p, anyState(r, p), anyMove(r), nil, api.LineNeed(r.Intn(4)), anyWatch(r), r.Intn(3)}
	for range r.Intn(4) {
		q.run = append(q.run, anyMove(r))
	}
	if r.Intn(4) == 0 {
		q.need, q.archer = api.LineNeed(anyNumber(r)), anyNumber(r)
	}
	return q
}

func copyMove(m api.LineMove) api.LineMove {
	m.Missed = slices.Clone(m.Missed)
	return m
}

func (q question) copied() question {
	o := question{copyPlan(q.p), copyState(q.s), copyMove(q.m), nil, q.need, copyWatch(q.w), q.archer}
	for _, m := range q.run {
		o.run = append(o.run, copyMove(m))
	}
	return o
}

// planCalls calls each function with a plan alone, or with what has no foul.
func planCalls(q question) []result {
	begin, f1 := line.Start(q.p)
	many, f2 := line.Count(q.p)
	risk, found, f3 := line.Risk(q.p)
	posts, is, f4 := line.Repair(q.p)
	return []result{
		{line.CheckPlan(q.p), nil}, {f1, []any{begin.Next, begin.People}}, {f2, []any{many}}, {f3, []any{risk, found}}, {f4, []any{posts, is}},
	}
}

// stateCalls calls each function with a state.
func stateCalls(q question) []result {
	l, f1 := line.Moves(q.p, q.s)
	first, shooter, is, f2 := line.Danger(q.p, q.s)
	way, found, f3 := line.Way(q.p, q.s)
	return []result{
		{line.CheckState(q.p, q.s), nil}, {f1, []any{l}}, {f2, []any{first, shooter, is}}, {f3, []any{way, found}},
	}
}

// archerCalls calls each function with an archer.
func archerCalls(q question) []result {
	times, f1 := line.Times(q.w, q.archer)
	a, b, f2 := line.Early(q.w, q.archer)
	c, d, f3 := line.Late(q.w, q.archer)
	points, f4 := line.Points(q.w, q.archer)
	n, found, f5 := line.Extra(q.w, q.archer)
	return []result{{f1, []any{times}}, {f2, []any{a, b}}, {f3, []any{c, d}}, {f4, []any{points}}, {f5, []any{n, found}}}
}

// otherCalls calls the functions that have fouls of their own.
func otherCalls(q question) []result {
	o, f1 := line.Step(q.p, q.s, q.m)
	s, n, f2 := line.Run(q.p, q.run)
	steps, found, f3 := line.Guard(q.p, q.need)
	text, f4 := line.Print(q.p, q.w)
	if f2 == api.Against {
		// The state and the number of moves before the one that is not possible stand beside this foul.
		s, n = api.LineState{}, 0
	}
	return []result{{f1, []any{o.Next, o.People}}, {f2, []any{s.Next, s.People, n}}, {f3, []any{steps, found}}, {f4, []any{text}}}
}

func allCalls(q question) []result {
	return slices.Concat(planCalls(q), stateCalls(q), archerCalls(q), otherCalls(q))
}

// checkSame looks for calls with another foul than the one that all of them must have.
func checkSame(t *testing.T, q question, want api.Foul, results []result) {
	t.Helper()
	for i, x := range results {
		if x.f != want {
			t.Fatal("another foul", q, i, x, want)
		}
	}
}

// orElse returns the first foul of some.
func orElse(fouls ...api.Foul) api.Foul {
	for _, f := range fouls {
		if f != api.Fair {
			return f
		}
	}
	return api.Fair
}

// P1, R4: any arguments are answered, in the same way each time, and are not changed.
func TestAnyArguments(t *testing.T) {
	r := rand.New(rand.NewSource(71))
	plans, watches := make(map[api.Foul]int), make(map[api.Foul]int)
	for range 1500 {
		q := anyQuestion(r)
		old := q.copied()
		results := allCalls(q)
		for i, x := range results {
			if x.f != api.Fair && !zero(x.rest...) {
				t.Fatal("results beside a foul", q, i, x)
			}
		}
		p, w := line.CheckPlan(q.p), line.CheckWatch(q.w)
		checkSame(t, q, p, planCalls(q))
		checkSame(t, q, orElse(p, line.CheckState(q.p, q.s)), stateCalls(q))
		unknown := api.Fair
		if q.archer < 0 || q.archer >= len(q.w.Archers) {
			unknown = api.Unknown
		}
		checkSame(t, q, orElse(w, unknown), archerCalls(q))
		if s, f := line.Print(q.p, q.w); f != orElse(p, w) || (f == api.Fair) != (s != "") {
			t.Fatal(q, s, f)
		}
		if !reflect.DeepEqual(q, old) {
			t.Fatal("an argument was changed", q, old)
		}
		if !reflect.DeepEqual(results, allCalls(q)) {
			t.Fatal("another answer to the same question", q)
		}
		plans[p]++
		watches[w]++
	}
	for _, f := range []api.Foul{api.Fair, api.OffLimits, api.BadCount, api.BadName, api.Twice, api.Unknown, api.OutOfOrder} {
		if plans[f] == 0 {
			t.Error("no plan had the foul", f)
		}
	}
	for _, f := range []api.Foul{api.Fair, api.OffLimits, api.BadCount, api.BadName, api.Twice, api.OutOfOrder, api.Against} {
		if watches[f] == 0 {
			t.Error("no watch had the foul", f)
		}
	}
}

// P1: what is very long is answered.
func TestLongArguments(t *testing.T) {
	const many = 1 << 17
	for _, x := range []struct {
		p    api.LinePlan
		want api.Foul
	}{
		{withPlan(func(p *api.LinePlan) { p.Fails = make([]int, many) }), api.OutOfOrder},
		{withPlan(func(p *api.LinePlan) { p.People = make([]api.LinePerson, many) }), api.BadCount},
		{withPlan(func(p *api.LinePlan) { p.Steps = make([]api.LineStep, many) }), api.BadCount},
	} {
		q := question{p: x.p}
		checkSame(t, q, x.want, planCalls(q))
	}
	p := examplePlan()
	if f := line.CheckState(p, api.LineState{People: make([]api.LineStand, many)}); f != api.BadCount {
		t.Error(f)
	}
	for _, moves := range []int{many, many + 1} {
		s, n, f := line.Run(p, make([]api.LineMove, moves))
		if n != moves || f != api.Fair || s.Next != moves%4 {
			t.Error(s, n, f)
		}
	}
}

// P1: any text is answered.
func TestAnyText(t *testing.T) {
	r := rand.New(rand.NewSource(73))
	parts := []string{plan, person, call, watch, archer, shot1, head, whole, "plan ", "person ", "step call ", "free", "watch ", "archer ", "shot ", " ", " ", "\n", "\n", "1", "2", "/", "0/1", "0", "-", "-1", "..", "\xff", "\x00", "999999999"}
	for range 5000 {
		text := ""
		if r.Intn(2) == 0 {
			text = whole
		}
		for range r.Intn(20) {
			text += pick(r, parts)
		}
		p, w, n, f := line.Parse(text)
		if f != api.Fair && (!samePlan(p, api.LinePlan{}) || !sameWatch(w, api.LineWatch{})) || f != api.BadForm && n != 0 {
			t.Fatalf("%q: %v %v %d %d", text, p, w, n, f)
		}
		if f == api.Fair && (line.CheckPlan(p) != api.Fair || line.CheckWatch(w) != api.Fair) {
			t.Fatalf("%q: %v %v", text, p, w)
		}
	}
}

// emptied returns a question whose lists are empty, but not nil, where those of another one are nil.
func emptied(q question) question {
	o := q.copied()
	o.p.Fails, o.p.People, o.s.People = append([]int{}, o.p.Fails...), append([]api.LinePerson{}, o.p.People...), append([]api.LineStand{}, o.s.People...)
	o.m.Missed, o.run = append([]int{}, o.m.Missed...), append([]api.LineMove{}, o.run...)
	o.w.Archers = append([]api.LineArcher{}, o.w.Archers...)
	for i, a := range o.w.Archers {
		o.w.Archers[i].Shots = append([]api.LineShot{}, a.Shots...)
	}
	return o
}

// R3: nil and an empty slice are the same.
func TestNilAndEmpty(t *testing.T) {
	r := rand.New(rand.NewSource(74))
	for range 300 {
		q := anyQuestion(r)
		if r.Intn(3) == 0 {
			q.p.People, q.s.People, q.p.Fails = nil, nil, nil
		}
		x, y := allCalls(q), allCalls(emptied(q))
		for i := range x {
			same := x[i].f == y[i].f && slices.EqualFunc(x[i].rest, y[i].rest, func(a, b any) bool { return zero(a) && zero(b) || reflect.DeepEqual(a, b) })
			if !same {
				t.Fatal(q, i, x[i], y[i])
			}
		}
	}
}

// R4: answers share no memory with arguments, nor with each other, nor do two lists of one.
func TestResultsShareNothing(t *testing.T) {
	p := withPlan(func(p *api.LinePlan) { p.Fails = list(0, 1) })
	s := state(2, stand(api.LineStop, on), stand(api.LineShoot, on))
	for range 2 {
		l := movesOf(t, p, s)
		want := []api.LineMove{give(), give(0), give(0, 1), give(1), gone(0, behind), gone(0, before), gone(1, behind)}
		if !sameMoves(l, want) {
			t.Fatal(l)
		}
		for i, m := range l {
			_ = append(m.Missed, 9)
			for j := range m.Missed {
				l[i].Missed[j] = 7 + i
			}
		}
		if !slices.Equal(l[1].Missed, list(8)) || !slices.Equal(l[2].Missed, list(9, 9)) || !slices.Equal(l[3].Missed, list(10)) {
			t.Fatal(l)
		}
		o, f := line.Step(p, s, gone(0, before))
		fair(t, f)
		o.People[1] = stand(0, 0)
		if s.People[0] != stand(api.LineStop, on) || s.People[1] != stand(api.LineShoot, on) {
			t.Fatal("an argument was changed", s)
		}
		posts, found := repairOf(t, p)
		if !found || !slices.Equal(posts, list(0, 1)) {
			t.Fatal(posts)
		}
		posts[0] = 7
		risk, _ := riskOf(t, examplePlan())
		if !slices.Equal(risk[2].Missed, list(1)) {
			t.Fatal(risk)
		}
		risk[2].Missed[0] = 7
	}
	w := exampleWatch()
	for range 2 {
		x := watchOf(t, w, 0)
		if !slices.Equal(x.times, []api.Span{span(5, 12), span(20, 20), span(20, 30), span(45, 60)}) || !slices.Equal(x.points, list(17, 27)) {
			t.Fatal(x)
		}
		x.times[2], x.points[0], x.canEarly[0], x.canLate[0] = span(7, 7), 7, 7, 7
	}
	o := api.LineWatch{Open: 5, Shut: 5, Count: 1, Archers: []api.LineArcher{{Name: "a", Shots: []api.LineShot{shot(span(0, 0), 1), shot(span(1, 1), 1)}}}}
	sure, can, _ := line.Early(o, 0)
	sure[0] = 7
	if !slices.Equal(can, list(0, 1)) {
		t.Fatal(sure, can)
	}
}
