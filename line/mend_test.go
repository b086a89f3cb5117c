package line_test

import (
	"math"
	"math/rand"
	"slices"
	"testing"

	"nock/api"
	"nock/line"
)

// shots returns the plan M with other signals.
func shots(signals ...api.LineSignal) api.LinePlan {
	p := freePlan()
	p.Steps = nil
	for _, s := range signals {
		p.Steps = append(p.Steps, step(s, api.LineFree))
	}
	return p
}

// P6.3: the examples of the chapter.
func TestMendExamples(t *testing.T) {
	for _, x := range []struct {
		p     api.LinePlan
		want  []int
		found bool
	}{
		{examplePlan(), list(1), true},
		{freePlan(), nil, false},
		{withPlan(func(p *api.LinePlan) { p.Fails = list(0, 1) }), list(0, 1), true},
		{withPlan(func(p *api.LinePlan) { p.Fails = nil }), nil, true},
		{withPlan(func(p *api.LinePlan) { p.People = p.People[:1] }), nil, true},
		// A post that nobody hears need not be mended.
		{withPlan(func(p *api.LinePlan) { p.Posts, p.Fails = 3, list(1, 2) }), list(1), true},
		{withPlan(func(p *api.LinePlan) { p.Posts, p.Fails, p.People[1].Post = 3, list(0, 1, 2), 2 }), list(0, 2), true},
	} {
		if l, found := repairOf(t, x.p); found != x.found || !slices.Equal(l, x.want) {
			t.Error(x, l, found)
		}
	}
	safe := withPlan(func(p *api.LinePlan) { p.Fails = nil })
	for _, x := range []struct {
		p     api.LinePlan
		need  api.LineNeed
		want  []int
		found bool
	}{
		{examplePlan(), api.LineBack, nil, false},
		{freePlan(), api.LineNobody, list(0), true},
		{freePlan(), api.LineBack, list(0), true},
		{freePlan(), api.LineEmpty, nil, false},
		{freePlan(), api.LineFree, nil, false},
		{safe, api.LineFree, nil, true},
		{safe, api.LineBack, nil, true},
		// The first shot after each stop must be guarded.
		{shots(api.LineShoot, api.LineShoot, api.LineStop), api.LineNobody, list(0), true},
		{shots(api.LineShoot, api.LineStop, api.LineShoot), api.LineNobody, list(2), true},
		{shots(api.LineShoot, api.LineStop, api.LineShoot, api.LineStop), api.LineNobody, list(0, 2), true},
	} {
		if l, found := guardOf(t, x.p, x.need); found != x.found || !slices.Equal(l, x.want) {
			t.Error(x, l, found)
		}
	}
}

// P6.3: the foul of a need, after those of the plan.
func TestGuardFouls(t *testing.T) {
	for _, n := range list(-1, 4, 5, math.MinInt, math.MaxInt) {
		if l, found, f := line.Guard(examplePlan(), api.LineNeed(n)); len(l) > 0 || found || f != api.OffLimits {
			t.Error(n, l, found, f)
		}
		if l, found, f := line.Guard(withPlan(func(p *api.LinePlan) { p.Steps = nil }), api.LineNeed(n)); len(l) > 0 || found || f != api.BadCount {
			t.Error(n, l, found, f)
		}
	}
}

// firstSafe returns the first of some lists such that the plan that is changed there is safe.
func firstSafe(all [][]int, changed func(l []int) api.LinePlan) (list []int, found bool) {
	i := slices.IndexFunc(all, func(l []int) bool { return wantedSafe(changed(l)) })
	if i < 0 {
		return nil, false
	}
	return all[i], true
}

// checkMends compares Repair and Guard with all lists of posts, or steps; it returns how many posts or steps are found.
func checkMends(t *testing.T, p api.LinePlan) (posts, steps int) {
	t.Helper()
	fails := slices.DeleteFunc(lists(p.Posts), func(l []int) bool { return !isPart(l, p.Fails) })
	want, is := firstSafe(fails, func(l []int) api.LinePlan { return mended(p, l) })
	if l, found := repairOf(t, p); found != is || !slices.Equal(l, want) {
		t.Fatal(p, l, found, want, is)
	}
	posts = len(want)
	for n := api.LineFree; n <= api.LineBack; n++ {
		want, is := firstSafe(lists(len(p.Steps)), func(l []int) api.LinePlan { return guarded(p, l, n) })
		if l, found := guardOf(t, p, n); found != is || !slices.Equal(l, want) {
			t.Fatal(p, n, l, found, want, is)
		}
		steps = max(steps, len(want))
	}
	return posts, steps
}

// loosePlan returns a plan of two people, or three, who can be in danger often, but need not be.
func loosePlan(r *rand.Rand) api.LinePlan {
	p := randomPlan(r, 0, 1)
	p.Posts, p.Fails = 3, nil
	for post := range p.Posts {
		if r.Intn(2) == 0 {
			p.Fails = append(p.Fails, post)
		}
	}
	p.People = []api.LinePerson{{Name: "a", Post: r.Intn(3)}, {Name: "b", Post: r.Intn(3)}}
	p.Steps = nil
	for _, s := range []api.LineSignal{api.LineShoot, api.LineStop, api.LineClear} {
		p.Steps = append(p.Steps, step(s, api.LineNeed(r.Intn(4))))
	}
	more := step(api.LineSignal(1+r.Intn(4)), api.LineNeed(r.Intn(4)))
	if r.Intn(2) == 0 {
		// People at one post are in danger by the needs alone, and a second shot must be guarded as the first one.
		p.People[1].Post = p.People[0].Post
		more.Signal = api.LineShoot
	}
	if r.Intn(3) > 0 {
		p.Steps = slices.Insert(p.Steps, r.Intn(4), more)
	}
	return p
}

// P6.3, P6.7: Repair and Guard of random plans: with fewer posts or steps, or with a lesser list, no plan is safe.
func TestMends(t *testing.T) {
	r := rand.New(rand.NewSource(31))
	var posts, steps [6]int
	for i := range 150 {
		p := loosePlan(r)
		if i%5 == 0 {
			p = randomPlan(r, 2, 4)
		}
		a, b := checkMends(t, p)
		posts[a]++
		steps[b]++
	}
	if posts[1] < 5 || posts[2] < 2 || steps[1] < 5 || steps[2] < 2 {
		t.Error("too few plans are mended", posts, steps)
	}
}

// P6.3: the least list of several, and the fewest steps rather than the first ones.
func TestFewest(t *testing.T) {
	r := rand.New(rand.NewSource(32))
	several, later := 0, 0
	for range 400 {
		p := loosePlan(r)
		for n := api.LineNobody; n <= api.LineBack; n++ {
			l, found := guardOf(t, p, n)
			if !found || len(l) == 0 {
				continue
			}
			if l[0] > 0 {
				later++
			}
			for i := range len(p.Steps) {
				if len(l) == 1 && i > l[0] && isSafe(t, guarded(p, list(i), n)) {
					several++
				}
				if len(l) == 1 && i < l[0] && isSafe(t, guarded(p, list(i), n)) {
					t.Fatal("a lesser list", p, n, l, i)
				}
			}
		}
	}
	if several < 10 || later < 10 {
		t.Error("too few plans have several lists", several, later)
	}
}

// P6.7: with the posts of Repair mended, and the steps of Guard guarded, a plan is safe; without one of them it is not.
func TestMendedIsSafe(t *testing.T) {
	r := rand.New(rand.NewSource(33))
	for range 150 {
		p := loosePlan(r)
		if l, found := repairOf(t, p); found {
			if !isSafe(t, mended(p, l)) {
				t.Fatal(p, l)
			}
			for i := range l {
				if isSafe(t, mended(p, without(l, i))) {
					t.Fatal("fewer are enough", p, l)
				}
			}
		} else if isSafe(t, mended(p, p.Fails)) {
			t.Fatal("there are such posts", p)
		}
		n := api.LineNeed(r.Intn(4))
		l, found := guardOf(t, p, n)
		if !found {
			continue
		}
		if !isSafe(t, guarded(p, l, n)) {
			t.Fatal(p, n, l)
		}
		for i := range l {
			if isSafe(t, guarded(p, without(l, i), n)) {
				t.Fatal("fewer are enough", p, n, l)
			}
		}
	}
}

// P6.7: a safe plan stays so if a post does not fail any more, a step needs more, or a person stays away.
func TestSafeStaysSafe(t *testing.T) {
	r := rand.New(rand.NewSource(34))
	safe := 0
	for range 400 {
		p := loosePlan(r)
		if !isSafe(t, p) {
			continue
		}
		safe++
		for _, post := range p.Fails {
			if !isSafe(t, mended(p, list(post))) {
				t.Fatal(p, post)
			}
		}
		for i, x := range p.Steps {
			for n := api.LineNobody; n <= api.LineBack; n++ {
				if (x.Need == api.LineFree || n == api.LineBack) && !isSafe(t, guarded(p, list(i), n)) {
					t.Fatal(p, i, n)
				}
			}
		}
		for i := range p.People {
			o := p
			o.People = without(p.People, i)
			if !isSafe(t, o) {
				t.Fatal(p, i)
			}
		}
	}
	if safe < 50 {
		t.Error("too few plans are safe", safe)
	}
}

// P6.8: the order of people changes no more than their indexes.
func TestPeopleInAnyOrder(t *testing.T) {
	r := rand.New(rand.NewSource(35))
	for range 100 {
		p := randomPlan(r, 3, 4)
		order := r.Perm(len(p.People))
		o := copyPlan(p)
		for i, from := range order {
			o.People[i] = p.People[from]
		}
		a, is := riskOf(t, p)
		b, was := riskOf(t, o)
		if countOf(t, p) != countOf(t, o) || is != was || len(a) != len(b) {
			t.Fatal(p, o)
		}
		posts, found := repairOf(t, p)
		if l, also := repairOf(t, o); also != found || !slices.Equal(l, posts) {
			t.Fatal(p, o, l, posts)
		}
		n := api.LineNeed(r.Intn(4))
		steps, found := guardOf(t, p, n)
		if l, also := guardOf(t, o, n); also != found || !slices.Equal(l, steps) {
			t.Fatal(p, o, l, steps)
		}
		for range 5 {
			s := randomState(r, p)
			other := copyState(s)
			for i, from := range order {
				other.People[i] = s.People[from]
			}
			way, found := wayTo(t, p, s)
			if l, also := wayTo(t, o, other); also != found || len(l) != len(way) || isDangerous(t, p, s) != isDangerous(t, o, other) {
				t.Fatal(p, o, s, way, l)
			}
		}
	}
}

// P6.8: where nobody is sent before the line, or nobody may shoot, all is safe.
func TestNoStopOrNoShot(t *testing.T) {
	r := rand.New(rand.NewSource(36))
	for _, never := range []api.LineSignal{api.LineStop, api.LineShoot} {
		for range 60 {
			p := randomPlan(r, 3, 5)
			for i, x := range p.Steps {
				if x.Signal == never {
					p.Steps[i].Signal = pick(r, []api.LineSignal{api.LineCall, api.LineClear, api.LineStop + api.LineShoot - never})
				}
			}
			if l, found := riskOf(t, p); found || len(l) > 0 {
				t.Fatal(p, l)
			}
			if l, found := repairOf(t, p); !found || len(l) > 0 {
				t.Fatal(p, l)
			}
		}
	}
}
