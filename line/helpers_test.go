package line_test

import (
	"math/rand"
	"slices"
	"testing"

	"nock/api"
	"nock/line"
)

const (
	behind = api.LineBehind
	on     = api.LineOn
	before = api.LineBefore
)

func list(numbers ...int) []int { return numbers }

func span(least, most int) api.Span { return api.Span{Min: least, Max: most} }

func step(s api.LineSignal, n api.LineNeed) api.LineStep { return api.LineStep{Signal: s, Need: n} }

// examplePlan is the plan L of the chapter.
func examplePlan() api.LinePlan {
	return api.LinePlan{
		Posts:  2,
		Fails:  list(1),
		People: []api.LinePerson{{Name: "ann", Post: 0}, {Name: "bob", Post: 1}},
		Steps:  []api.LineStep{step(api.LineCall, api.LineBack), step(api.LineShoot, api.LineNobody), step(api.LineStop, api.LineFree), step(api.LineClear, api.LineEmpty)},
	}
}

// freePlan is the plan M of the chapter.
func freePlan() api.LinePlan {
	p := examplePlan()
	p.Fails = nil
	for i := range p.Steps {
		p.Steps[i].Need = api.LineFree
	}
	return p
}

// exampleWatch is the watch W of the chapter.
func exampleWatch() api.LineWatch {
	return api.LineWatch{Open: 10, Shut: 50, Count: 3, Archers: []api.LineArcher{
		{Name: "ann", Shots: []api.LineShot{{At: span(5, 12), Number: 9}, {At: span(20, 20), Number: 10}, {At: span(15, 30), Number: 8}, {At: span(45, 60), Number: 11}}},
		{Name: "cid", Extra: 20, Shots: []api.LineShot{{At: span(65, 65), Number: 7}}},
	}}
}

func withPlan(change func(p *api.LinePlan)) api.LinePlan {
	p := examplePlan()
	change(&p)
	return p
}

func withWatch(change func(w *api.LineWatch)) api.LineWatch {
	w := exampleWatch()
	change(&w)
	return w
}

func give(missed ...int) api.LineMove { return api.LineMove{Missed: missed} }

func gone(person int, to api.LinePlace) api.LineMove {
	return api.LineMove{Kind: api.LineGo, Person: person, To: to}
}

func stand(heard api.LineSignal, place api.LinePlace) api.LineStand {
	return api.LineStand{Heard: heard, Place: place}
}

func state(next int, people ...api.LineStand) api.LineState {
	return api.LineState{Next: next, People: people}
}

func sameMove(a, b api.LineMove) bool {
	return a.Kind == b.Kind && slices.Equal(a.Missed, b.Missed) && a.Person == b.Person && a.To == b.To
}

func sameMoves(a, b []api.LineMove) bool { return slices.EqualFunc(a, b, sameMove) }

func sameState(a, b api.LineState) bool { return a.Next == b.Next && slices.Equal(a.People, b.People) }

func samePlan(a, b api.LinePlan) bool {
	return a.Posts == b.Posts && slices.Equal(a.Fails, b.Fails) && slices.Equal(a.People, b.People) && slices.Equal(a.Steps, b.Steps)
}

func sameArcher(a, b api.LineArcher) bool {
	return a.Name == b.Name && a.Extra == b.Extra && slices.Equal(a.Shots, b.Shots)
}

func sameWatch(a, b api.LineWatch) bool {
	return a.Open == b.Open && a.Shut == b.Shut && a.Count == b.Count && slices.EqualFunc(a.Archers, b.Archers, sameArcher)
}

func copyPlan(p api.LinePlan) api.LinePlan {
	p.Fails, p.People, p.Steps = slices.Clone(p.Fails), slices.Clone(p.People), slices.Clone(p.Steps)
	return p
}

func copyWatch(w api.LineWatch) api.LineWatch {
	w.Archers = slices.Clone(w.Archers)
	for i, a := range w.Archers {
		w.Archers[i].Shots = slices.Clone(a.Shots)
	}
	return w
}

func copyState(s api.LineState) api.LineState {
	s.People = slices.Clone(s.People)
	return s
}

// fair stops a test if there is a foul.
func fair(t *testing.T, f api.Foul) {
	t.Helper()
	if f != api.Fair {
		t.Fatal("foul", f)
	}
}

func startOf(t *testing.T, p api.LinePlan) api.LineState {
	t.Helper()
	s, f := line.Start(p)
	fair(t, f)
	return s
}

func movesOf(t *testing.T, p api.LinePlan, s api.LineState) []api.LineMove {
	t.Helper()
	l, f := line.Moves(p, s)
	fair(t, f)
	return l
}

func isDangerous(t *testing.T, p api.LinePlan, s api.LineState) bool {
	t.Helper()
	_, _, is, f := line.Danger(p, s)
	fair(t, f)
	return is
}

func countOf(t *testing.T, p api.LinePlan) int {
	t.Helper()
	n, f := line.Count(p)
	fair(t, f)
	return n
}

func riskOf(t *testing.T, p api.LinePlan) (run []api.LineMove, found bool) {
	t.Helper()
	run, found, f := line.Risk(p)
	fair(t, f)
	return run, found
}

func isSafe(t *testing.T, p api.LinePlan) bool {
	t.Helper()
	_, found := riskOf(t, p)
	return !found
}

func wayTo(t *testing.T, p api.LinePlan, s api.LineState) (run []api.LineMove, found bool) {
	t.Helper()
	run, found, f := line.Way(p, s)
	fair(t, f)
	return run, found
}

func repairOf(t *testing.T, p api.LinePlan) (posts []int, found bool) {
	t.Helper()
	posts, found, f := line.Repair(p)
	fair(t, f)
	return posts, found
}

func guardOf(t *testing.T, p api.LinePlan, n api.LineNeed) (steps []int, found bool) {
	t.Helper()
	steps, found, f := line.Guard(p, n)
	fair(t, f)
	return steps, found
}

// watched is what is said of an archer.
type watched struct {
	times                          []api.Span
	early, canEarly, late, canLate []int
	points                         []int
	extra                          int
	found                          bool
}

func (a watched) same(b watched) bool {
	return slices.Equal(a.times, b.times) && slices.Equal(a.early, b.early) && slices.Equal(a.canEarly, b.canEarly) &&
		slices.Equal(a.late, b.late) && slices.Equal(a.canLate, b.canLate) && slices.Equal(a.points, b.points) && a.extra == b.extra && a.found == b.found
}

func watchOf(t *testing.T, w api.LineWatch, archer int) watched {
	t.Helper()
	var x watched
	var f [5]api.Foul
	x.times, f[0] = line.Times(w, archer)
	x.early, x.canEarly, f[1] = line.Early(w, archer)
	x.late, x.canLate, f[2] = line.Late(w, archer)
	x.points, f[3] = line.Points(w, archer)
	x.extra, x.found, f[4] = line.Extra(w, archer)
	for _, foul := range f {
		fair(t, foul)
	}
	return x
}

// pick returns one of some elements.
func pick[T any](r *rand.Rand, all []T) T { return all[r.Intn(len(all))] }

// without returns a list without the element with an index.
func without[T any](l []T, i int) []T { return slices.Delete(slices.Clone(l), i, i+1) }

// isPart says whether all elements of a list are in another one.
func isPart(l, all []int) bool {
	return !slices.ContainsFunc(l, func(x int) bool { return !slices.Contains(all, x) })
}

var letters = []string{"a", "b", "c", "d"}

// randomSteps returns steps, which often are in the order that is usual.
func randomSteps(r *rand.Rand, most int) []api.LineStep {
	var steps []api.LineStep
	usual := r.Intn(3) > 0
	for i := range 1 + r.Intn(most) {
		s := api.LineSignal(1 + i%4)
		if !usual || r.Intn(8) == 0 {
			s = api.LineSignal(1 + r.Intn(4))
		}
		steps = append(steps, step(s, api.LineNeed(r.Intn(4))))
	}
	return steps
}

// randomPlan returns a plan of at most so many people and steps.
func randomPlan(r *rand.Rand, people, steps int) api.LinePlan {
	p := api.LinePlan{Posts: 1 + r.Intn(api.MaxLinePosts), Steps: randomSteps(r, steps)}
	for post := range p.Posts {
		if r.Intn(3) == 0 {
			p.Fails = append(p.Fails, post)
		}
	}
	for i := range r.Intn(people + 1) {
		p.People = append(p.People, api.LinePerson{Name: letters[i], Post: r.Intn(p.Posts)})
	}
	return p
}

// randomState returns a state of a plan, which runs need not lead to.
func randomState(r *rand.Rand, p api.LinePlan) api.LineState {
	s := api.LineState{Next: r.Intn(len(p.Steps))}
	for range p.People {
		s.People = append(s.People, stand(api.LineSignal(r.Intn(5)), api.LinePlace(r.Intn(3))))
	}
	return s
}

// randomArcher returns an archer whose times are below a number, in spans that are at most so wide.
func randomArcher(r *rand.Rand, name string, shots, far, wide int) api.LineArcher {
	a := api.LineArcher{Name: name, Extra: min(r.Intn(4)*r.Intn(far+1)/8, api.MaxLineExtra)}
	var times []int
	for range r.Intn(shots + 1) {
		times = append(times, r.Intn(far))
	}
	slices.Sort(times)
	for _, at := range times {
		x := span(max(0, at-r.Intn(wide)), min(far-1, at+r.Intn(wide)))
		a.Shots = append(a.Shots, api.LineShot{At: x, Number: r.Intn(12)})
	}
	return a
}

// randomWatch returns a watch of at least one archer.
func randomWatch(r *rand.Rand, shots, far, wide int) api.LineWatch {
	w := api.LineWatch{Open: r.Intn(far), Count: 1 + r.Intn(api.MaxLineShots)}
	w.Open = w.Open * r.Intn(3) / 3
	w.Shut = w.Open + r.Intn(far-w.Open)
	for i := range 1 + r.Intn(api.MaxLineArchers) {
		w.Archers = append(w.Archers, randomArcher(r, letters[i], shots, far, wide))
	}
	return w
}
