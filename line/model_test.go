package line_test

import (
	"cmp"
	"slices"

	"nock/api"
)

// This file finds what the searches must return in another way: each conceivable move is held against the chapter's words, and of the runs to a state the least one is found by comparing them.

// key is a state that can be compared.
type key struct {
	next   int
	people [api.MaxLinePeople]api.LineStand
}

func keyOf(s api.LineState) key {
	k := key{next: s.Next}
	copy(k.people[:], s.People)
	return k
}

// lists returns all lists of numbers below n, the shortest ones first, and of as long ones the least one.
func lists(n int) [][]int {
	all := [][]int{nil}
	for i := range n {
		for _, l := range all {
			all = append(all, append(slices.Clone(l), i))
		}
	}
	slices.SortFunc(all, func(a, b []int) int {
		return cmp.Or(cmp.Compare(len(a), len(b)), slices.Compare(a, b))
	})
	return all
}

// compareMoves puts gives first, by Missed, and then goes, by Person and To.
func compareMoves(a, b api.LineMove) int {
	return cmp.Or(cmp.Compare(a.Kind, b.Kind), slices.Compare(a.Missed, b.Missed), cmp.Compare(a.Person, b.Person), cmp.Compare(a.To, b.To))
}

func compareRuns(a, b []api.LineMove) int { return slices.CompareFunc(a, b, compareMoves) }

// conceivable returns all moves of any plan, in their order.
func conceivable() []api.LineMove {
	var all []api.LineMove
	for _, l := range lists(api.MaxLinePosts) {
		all = append(all, give(l...))
	}
	for person := range api.MaxLinePeople {
		for _, to := range []api.LinePlace{behind, on, before} {
			all = append(all, gone(person, to))
		}
	}
	slices.SortFunc(all, compareMoves)
	return all
}

// wantedNeed says whether what a need says is so in a state.
func wantedNeed(n api.LineNeed, s api.LineState) bool {
	many := make(map[api.LinePlace]int)
	for _, x := range s.People {
		many[x.Place]++
	}
	switch n {
	case api.LineNobody:
		return many[before] == 0
	case api.LineEmpty:
		return many[on] == 0
	case api.LineBack:
		return many[behind] == len(s.People)
	}
	return true
}

// isPossible says whether one of the conceivable moves is possible in a state.
func isPossible(p api.LinePlan, s api.LineState, m api.LineMove) bool {
	if m.Kind == api.LineGive {
		return isPart(m.Missed, p.Fails) && wantedNeed(p.Steps[s.Next].Need, s)
	}
	if m.Person >= len(s.People) {
		return false
	}
	at, heard := s.People[m.Person].Place, s.People[m.Person].Heard
	switch m.To {
	case on:
		return at == behind && (heard == api.LineCall || heard == api.LineShoot)
	case before:
		return at != before && heard == api.LineStop
	}
	return at != behind
}

func wantedMoves(p api.LinePlan, s api.LineState) []api.LineMove {
	var all []api.LineMove
	for _, m := range conceivable() {
		if isPossible(p, s, m) {
			all = append(all, m)
		}
	}
	return all
}

// wantedStep returns the state to which a move leads that is possible.
func wantedStep(p api.LinePlan, s api.LineState, m api.LineMove) api.LineState {
	o := copyState(s)
	if m.Kind == api.LineGo {
		o.People[m.Person].Place = m.To
		return o
	}
	for i, x := range p.People {
		if !slices.Contains(m.Missed, x.Post) {
			o.People[i].Heard = p.Steps[s.Next].Signal
		}
	}
	o.Next++
	if o.Next == len(p.Steps) {
		o.Next = 0
	}
	return o
}

func wantedDanger(s api.LineState) (first, shooter int, is bool) {
	first = slices.IndexFunc(s.People, func(x api.LineStand) bool { return x.Place == before })
	shooter = slices.Index(s.People, stand(api.LineShoot, on))
	if first < 0 || shooter < 0 {
		return 0, 0, false
	}
	return first, shooter, true
}

// reached is a state, and the least of the shortest runs to it.
type reached struct {
	state api.LineState
	run   []api.LineMove
}

// nextLevel returns what is reached from one level, but not before.
func nextLevel(p api.LinePlan, level map[key]reached, seen map[key]reached) map[key]reached {
	next := make(map[key]reached)
	for _, x := range level {
		for _, m := range wantedMoves(p, x.state) {
			s := wantedStep(p, x.state, m)
			k := keyOf(s)
			run := append(slices.Clone(x.run), m)
			if _, old := seen[k]; old {
				continue
			}
			if best, found := next[k]; !found || compareRuns(run, best.run) < 0 {
				next[k] = reached{s, run}
			}
		}
	}
	return next
}

// wantedRuns returns the least of the shortest runs to each state to which there is one.
func wantedRuns(p api.LinePlan) map[key]reached {
	begin := api.LineState{People: make([]api.LineStand, len(p.People))}
	level := map[key]reached{keyOf(begin): {begin, nil}}
	seen := make(map[key]reached)
	for len(level) > 0 {
		for k, x := range level {
			seen[k] = x
		}
		level = nextLevel(p, level, seen)
	}
	return seen
}

// wantedRisk returns the least of the shortest runs that lead to a dangerous state.
func wantedRisk(runs map[key]reached) (run []api.LineMove, found bool) {
	for _, x := range runs {
		if _, _, is := wantedDanger(x.state); !is {
			continue
		}
		if !found || cmp.Or(cmp.Compare(len(x.run), len(run)), compareRuns(x.run, run)) < 0 {
			run, found = x.run, true
		}
	}
	return run, found
}

func wantedSafe(p api.LinePlan) bool {
	_, found := wantedRisk(wantedRuns(p))
	return !found
}

// mended returns the plan in which some posts do not fail any more.
func mended(p api.LinePlan, posts []int) api.LinePlan {
	o := copyPlan(p)
	o.Fails = slices.DeleteFunc(o.Fails, func(post int) bool { return slices.Contains(posts, post) })
	return o
}

// guarded returns the plan in which some steps have a need.
func guarded(p api.LinePlan, steps []int, n api.LineNeed) api.LinePlan {
	o := copyPlan(p)
	for _, i := range steps {
		o.Steps[i].Need = n
	}
	return o
}

// wantedTimes returns all times that truths give the shots of an archer.
func wantedTimes(shots []api.LineShot) [][]int {
	all := [][]int{nil}
	for _, x := range shots {
		var longer [][]int
		for _, times := range all {
			for at := x.At.Min; at <= x.At.Max; at++ {
				if len(times) == 0 || times[len(times)-1] <= at {
					longer = append(longer, append(slices.Clone(times), at))
				}
			}
		}
		all = longer
	}
	return all
}

// wantedPoints returns the points of an archer whose shots were loosed at some times: the numbers are lost, and counted, one by one.
func wantedPoints(w api.LineWatch, a api.LineArcher, times []int) int {
	var left []int
	for _, x := range a.Shots {
		left = append(left, x.Number)
	}
	for _, at := range times {
		if at < w.Open || at > w.Shut+a.Extra {
			left = without(left, slices.Index(left, slices.Max(left)))
		}
	}
	for len(left) > w.Count {
		left = without(left, slices.Index(left, slices.Max(left)))
	}
	sum := 0
	for _, n := range left {
		if n == 11 {
			n = 10
		}
		sum += n
	}
	return sum
}

// inAllAndSome returns the shots that are so in all truths, and in some.
func inAllAndSome(truths [][]int, shots int, is func(at int) bool) (sure, can []int) {
	for i := range shots {
		many := 0
		for _, times := range truths {
			if is(times[i]) {
				many++
			}
		}
		if many == len(truths) {
			sure = append(sure, i)
		}
		if many > 0 {
			can = append(can, i)
		}
	}
	return sure, can
}

// wantedWatched returns what must be said of an archer who has truths.
func wantedWatched(w api.LineWatch, a api.LineArcher) watched {
	truths := wantedTimes(a.Shots)
	x := watched{found: true}
	for i := range a.Shots {
		times := span(truths[0][i], truths[0][i])
		for _, truth := range truths {
			times = span(min(times.Min, truth[i]), max(times.Max, truth[i]))
		}
		x.times = append(x.times, times)
	}
	x.early, x.canEarly = inAllAndSome(truths, len(a.Shots), func(at int) bool { return at < w.Open })
	x.late, x.canLate = inAllAndSome(truths, len(a.Shots), func(at int) bool { return at > w.Shut+a.Extra })
	for _, times := range truths {
		x.points = append(x.points, wantedPoints(w, a, times))
	}
	slices.Sort(x.points)
	x.points = slices.Compact(x.points)
	isLate := func(times []int) bool { return len(times) > 0 && slices.Max(times) > w.Shut+x.extra }
	for x.extra <= api.MaxLineExtra && slices.ContainsFunc(truths, isLate) {
		x.extra++
	}
	if x.extra > api.MaxLineExtra {
		x.extra, x.found = 0, false
	}
	return x
}
