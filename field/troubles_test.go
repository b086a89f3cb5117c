package field_test

import (
	"math"
	"math/rand"
	"slices"
	"testing"

	"nock/api"
	"nock/field"
)

func trouble(one, two, peg int, meet api.Sure, from int) api.FieldTrouble {
	return api.FieldTrouble{One: one, Two: two, Peg: peg, Meet: meet, From: from}
}

func group(name string, start, delay int) api.FieldGroup {
	return api.FieldGroup{Name: name, Start: start, Delay: delay}
}

// evenCourse is one of some pegs that all have the same times.
func evenCourse(pegs int, shoot, walk api.Span, groups ...api.FieldGroup) api.FieldCourse {
	c := exampleCourse()
	c.Pegs, c.Groups = nil, groups
	for i := range pegs {
		c.Pegs = append(c.Pegs, api.FieldPeg{Name: letters[i], Slant: only(20), Shoot: shoot, Walk: walk})
	}
	return c
}

// P7.3: the examples of the chapter, and others with spans.
func TestTroubleExamples(t *testing.T) {
	for i, x := range []struct {
		change func(c *api.FieldCourse)
		want   []api.FieldTrouble
		safe   bool
	}{
		{func(c *api.FieldCourse) {}, nil, true},
		{func(c *api.FieldCourse) { *c = lateCourse() }, []api.FieldTrouble{trouble(0, 1, 2, maybe, 13)}, false},
		{func(c *api.FieldCourse) { c.Groups[1].Delay = 2 }, []api.FieldTrouble{trouble(0, 1, 1, maybe, 6), trouble(0, 1, 2, maybe, 13)}, false},
		{func(c *api.FieldCourse) { c.Groups[1].Delay = 8 }, []api.FieldTrouble{trouble(0, 1, 1, yes, 8), trouble(0, 1, 2, yes, 15)}, false},
		{func(c *api.FieldCourse) { c.Groups = c.Groups[:1] }, nil, true},
		{func(c *api.FieldCourse) { c.Groups = nil }, nil, true},
		{func(c *api.FieldCourse) { c.Limit = 23 }, nil, true},
		{func(c *api.FieldCourse) { c.Limit = 22 }, nil, false},
		{func(c *api.FieldCourse) { c.Limit, c.Groups = 1, nil }, nil, true},
		{func(c *api.FieldCourse) { c.Limit, c.Groups = 1, c.Groups[:1] }, nil, false},
		// Two pegs at which both groups can be from the same minute on.
		{func(c *api.FieldCourse) {
			*c = evenCourse(2, span(4, 6), span(0, 1), group("a", 0, 0), group("b", 1, 0))
		}, []api.FieldTrouble{trouble(0, 1, 0, maybe, 4), trouble(0, 1, 1, maybe, 4)}, false},
		{func(c *api.FieldCourse) {
			*c = evenCourse(2, span(4, 6), span(0, 1), group("a", 1, 0), group("b", 0, 0))
		}, []api.FieldTrouble{trouble(0, 1, 0, maybe, 4), trouble(0, 1, 1, maybe, 4)}, false},
	} {
		c := withCourse(x.change)
		if l := troublesOf(t, c); !slices.Equal(l, x.want) {
			t.Error(i, l)
		}
		if is := isSafe(t, c); is != x.safe {
			t.Error(i, is)
		}
	}
}

// P7.3: troubles of groups whose times are certain: each one shoots for 5 minutes, and walks for none.
func TestCertainTroubles(t *testing.T) {
	for i, x := range []struct {
		groups []api.FieldGroup
		want   []api.FieldTrouble
	}{
		// One group goes in the minute in which the next one comes.
		{[]api.FieldGroup{group("a", 0, 0), group("b", 1, 0), group("c", 2, 0)}, nil},
		{[]api.FieldGroup{group("a", 3, 0), group("b", 1, 0), group("c", 0, 0)}, nil},
		{[]api.FieldGroup{group("a", 0, 1), group("b", 1, 0)}, nil},
		{[]api.FieldGroup{group("a", 0, 10), group("b", 1, 0)}, nil},
		{[]api.FieldGroup{group("a", 0, 11), group("b", 1, 0)}, []api.FieldTrouble{trouble(0, 1, 0, yes, 15)}},
		{[]api.FieldGroup{group("b", 1, 0), group("a", 0, 12)}, []api.FieldTrouble{trouble(0, 1, 0, yes, 15)}},
		{[]api.FieldGroup{group("a", 0, 0), group("b", 1, 1)}, []api.FieldTrouble{trouble(0, 1, 1, yes, 5), trouble(0, 1, 2, yes, 10), trouble(0, 1, 3, yes, 15)}},
		{[]api.FieldGroup{group("b", 1, 1), group("a", 0, 0)}, []api.FieldTrouble{trouble(0, 1, 1, yes, 5), trouble(0, 1, 2, yes, 10), trouble(0, 1, 3, yes, 15)}},
		{[]api.FieldGroup{group("a", 0, 0), group("b", 1, 1), group("c", 2, 2)},
			[]api.FieldTrouble{trouble(0, 1, 1, yes, 5), trouble(1, 2, 2, yes, 6), trouble(0, 1, 2, yes, 10), trouble(1, 2, 3, yes, 11), trouble(0, 1, 3, yes, 15), trouble(1, 2, 0, yes, 16)}},
		// Three groups are at one peg, of which one or another comes last.
		{[]api.FieldGroup{group("a", 2, 12), group("b", 1, 7), group("c", 0, 1)},
			[]api.FieldTrouble{trouble(1, 2, 1, yes, 7), trouble(0, 1, 2, yes, 12), trouble(0, 2, 2, yes, 12), trouble(1, 2, 2, yes, 12), trouble(0, 1, 3, yes, 17), trouble(0, 2, 3, yes, 17), trouble(1, 2, 3, yes, 17), trouble(0, 1, 0, yes, 22)}},
		{[]api.FieldGroup{group("a", 0, 0), group("b", 2, 12), group("c", 1, 6)},
			[]api.FieldTrouble{trouble(0, 2, 1, yes, 6), trouble(0, 2, 2, yes, 11), trouble(0, 1, 2, yes, 12), trouble(1, 2, 2, yes, 12), trouble(0, 2, 3, yes, 16), trouble(0, 1, 3, yes, 17), trouble(1, 2, 3, yes, 17), trouble(1, 2, 0, yes, 22)}},
	} {
		c := evenCourse(4, only(5), only(0), x.groups...)
		if l := troublesOf(t, c); !slices.Equal(l, x.want) {
			t.Error(i, l)
		}
		if is := isSafe(t, c); is != (len(x.want) == 0) {
			t.Error(i, is)
		}
	}
}

// P7.3, P7.6: Troubles and Safe of random courses are those of all truths.
func TestTroubles(t *testing.T) {
	r := rand.New(rand.NewSource(75))
	many, safe := make(map[api.Sure]int), make(map[bool]int)
	for i := range 800 {
		c := randomCourse(r, pick(r, []scale{small, middle}))
		if i%2 == 0 {
			c = likelyCourse(r, middle)
		}
		l := troublesOf(t, c)
		if !slices.Equal(l, wantedTroubles(c)) {
			t.Fatal(c, l)
		}
		for _, x := range l {
			many[x.Meet]++
		}
		for group := range c.Groups {
			// Whether all are in time, and who is not, decides now and then.
			if r.Intn(3) == 0 {
				c.Limit = max(1, endsOf(t, c, group).Max-r.Intn(2))
			}
		}
		is := isSafe(t, c)
		if is != wantedSafe(c) {
			t.Fatal(c, is)
		}
		safe[is && len(c.Groups) > 1]++
	}
	if many[yes] < 80 || many[maybe] < 200 || safe[true] < 50 || safe[false] < 50 {
		t.Error("too few of a kind", many, safe)
	}
}

// P7.3: the examples of the chapter, and others.
func TestDelayExamples(t *testing.T) {
	even := func(groups ...api.FieldGroup) api.FieldCourse { return evenCourse(4, only(5), only(0), groups...) }
	// The second group is at its first peg for so long that the first one must wait.
	slow := func(minutes int) api.FieldCourse {
		c := evenCourse(2, only(5), only(0), group("a", 0, 0), group("b", 1, 0))
		c.Limit, c.Pegs[1].Shoot = 999, only(minutes)
		return c
	}
	for i, x := range []struct {
		c     api.FieldCourse
		want  []int
		found bool
	}{
		{exampleCourse(), list(0, 0), true},
		{lateCourse(), list(0, 0), true},
		{withCourse(func(c *api.FieldCourse) { c.Groups[0].Delay, c.Groups[1].Delay = 12, 12 }), list(0, 0), true},
		{withCourse(func(c *api.FieldCourse) { c.Limit = 23 }), list(0, 0), true},
		{withCourse(func(c *api.FieldCourse) { c.Limit = 22 }), nil, false},
		{withCourse(func(c *api.FieldCourse) { c.Pegs[1].Shoot = only(7) }), list(1, 0), true},
		{withCourse(func(c *api.FieldCourse) { c.Pegs[1].Shoot, c.Limit = only(7), 25 }), list(1, 0), true},
		{withCourse(func(c *api.FieldCourse) { c.Pegs[1].Shoot, c.Limit = only(7), 24 }), nil, false},
		{withCourse(func(c *api.FieldCourse) { c.Groups = c.Groups[:1] }), list(0), true},
		{withCourse(func(c *api.FieldCourse) { c.Groups, c.Limit = c.Groups[:1], 21 }), nil, false},
		{withCourse(func(c *api.FieldCourse) { c.Groups = nil }), nil, true},
		{withCourse(func(c *api.FieldCourse) { c.Groups, c.Limit = nil, 1 }), nil, true},
		{even(group("a", 0, 5), group("b", 1, 7), group("c", 2, 0)), list(0, 0, 0), true},
		// Either group can wait until the other one, whose times are not certain, has ended.
		{withCourse(func(c *api.FieldCourse) {
			*c = evenCourse(2, only(2), only(2), group("a", 1, 0), group("b", 0, 0))
			c.Pegs[1].Shoot = span(1, 6)
		}), list(0, 10), true},
		{slow(5), list(0, 0), true},
		{slow(6), list(1, 0), true},
		{slow(16), list(11, 0), true},
		{slow(17), list(12, 0), true},
		{slow(18), nil, false},
	} {
		if l, found := delaysOf(t, x.c); !slices.Equal(l, x.want) || found != x.found {
			t.Error(i, l, found)
		}
	}
}

// waitingCourse returns a course in which some groups often must wait: a peg takes longer than others.
func waitingCourse(r *rand.Rand) api.FieldCourse {
	c := likelyCourse(r, scale{4, 3, 6, 2})
	slow := &c.Pegs[r.Intn(len(c.Pegs))]
	slow.Shoot = span(slow.Shoot.Min+r.Intn(5), slow.Shoot.Max+4)
	if r.Intn(3) == 0 && len(c.Groups) > 0 {
		// The last minute in which a group may end often forbids what would be best else.
		c.Limit = 1 + r.Intn(70)
	}
	return c
}

// firstSafe returns the first of all lists of delays with which a course is safe.
func firstSafe(t *testing.T, c api.FieldCourse) (delays []int, found bool) {
	t.Helper()
	for _, l := range delayLists(len(c.Groups)) {
		if isSafe(t, delayed(t, c, l)) {
			return l, true
		}
	}
	return nil, false
}

// P7.3, P7.7, P4: of all lists of delays the one with the least sum, and of several the least one.
func TestDelays(t *testing.T) {
	r := rand.New(rand.NewSource(76))
	sums, safe := make(map[int]int), 0
	for range 250 {
		c := waitingCourse(r)
		l, found := delaysOf(t, c)
		want, is := firstSafe(t, c)
		if !slices.Equal(l, want) || found != is {
			t.Fatal(c, l, found, want, is)
		}
		if !found {
			sums[-1]++
			continue
		}
		sums[min(sum(l), 3)]++
		if !wantedSafe(delayed(t, c, l)) {
			t.Fatal("delays that are not safe", c, l)
		}
		if len(l) > 2 && sum(l) > 0 {
			safe++
		}
	}
	if sums[-1] < 20 || sums[0] < 20 || sums[1]+sums[2] < 20 || sums[3] < 20 || safe < 10 {
		t.Error("too few of a kind", sums, safe)
	}
}

// P7.3: of several lists with the least sum the least one.
func TestLeastDelays(t *testing.T) {
	r := rand.New(rand.NewSource(77))
	several := 0
	for i := range 2000 {
		c := waitingCourse(r)
		if i%2 == 0 {
			// Each of two groups can wait for the other one, whose times at one peg are not certain.
			c = evenCourse(2, only(1+r.Intn(4)), randomSpan(r, 0, 2, 1), group("a", i/2%2, 0), group("b", 1-i/2%2, 0))
			c.Pegs[1].Shoot.Max = c.Pegs[1].Shoot.Min + 2 + r.Intn(5)
		}
		best, found := delaysOf(t, c)
		if !found || sum(best) == 0 || len(best) < 2 {
			continue
		}
		for _, l := range delayLists(len(c.Groups)) {
			if sum(l) > sum(best) {
				break
			}
			if sum(l) < sum(best) || slices.Equal(l, best) || !isSafe(t, delayed(t, c, l)) {
				continue
			}
			several++
			if slices.Compare(l, best) < 0 {
				t.Fatal("a lesser list", c, best, l)
			}
		}
	}
	if several < 20 {
		t.Error("too few have several lists", several)
	}
}

// P7.3: the course with other delays, and all else as it was.
func TestDelayed(t *testing.T) {
	for _, l := range [][]int{list(0, 0), list(1, 2), list(0, 12), list(12, 0), list(12, 12)} {
		for _, c := range []api.FieldCourse{exampleCourse(), lateCourse()} {
			want := copyCourse(c)
			want.Groups[0].Delay, want.Groups[1].Delay = l[0], l[1]
			if o := delayed(t, c, l); !sameCourse(o, want) {
				t.Error(l, o)
			}
		}
	}
	if c := withCourse(func(c *api.FieldCourse) { c.Groups = nil }); !sameCourse(delayed(t, c, nil), c) || !sameCourse(delayed(t, c, list()), c) {
		t.Error("no delays of no groups")
	}
	if o := delayed(t, greatCourse(), list(3, 2, 1)); o.Groups[0].Delay != 3 || o.Groups[1].Delay != 2 || o.Groups[2].Delay != 1 {
		t.Error(o)
	}
	bad := withCourse(func(c *api.FieldCourse) { c.Pegs[0].Lane = list(1, 1) })
	for _, x := range []struct {
		c      api.FieldCourse
		delays []int
		want   api.Foul
	}{
		{exampleCourse(), nil, api.BadCount}, {exampleCourse(), list(1), api.BadCount}, {exampleCourse(), list(13), api.BadCount}, {exampleCourse(), list(1, 2, 3), api.BadCount}, {exampleCourse(), list(-1, 2, 3), api.BadCount}, {exampleCourse(), make([]int, 1<<17), api.BadCount},
		{exampleCourse(), list(1, 13), api.OffLimits}, {exampleCourse(), list(13, 1), api.OffLimits}, {exampleCourse(), list(-1, 0), api.OffLimits}, {exampleCourse(), list(0, -1), api.OffLimits}, {exampleCourse(), list(math.MinInt, 0), api.OffLimits}, {exampleCourse(), list(0, math.MaxInt), api.OffLimits},
		{bad, list(0, 0), api.OutOfOrder}, {bad, list(0), api.OutOfOrder}, {bad, list(0, 13), api.OutOfOrder},
	} {
		if o, f := field.Delayed(x.c, x.delays); !sameCourse(o, api.FieldCourse{}) || f != x.want {
			t.Error(x.delays, o, f)
		}
	}
}

// P7.3: the course with narrower times, and all else as it was.
func TestNarrow(t *testing.T) {
	all := span(0, 60)
	for _, x := range []struct {
		peg         int
		shoot, walk api.Span
		a, b        api.Span
	}{
		{0, span(5, 9), all, span(5, 6), span(2, 3)}, {0, all, only(3), span(4, 6), only(3)}, {0, all, all, span(4, 6), span(2, 3)}, {0, span(0, 4), span(0, 2), only(4), only(2)}, {0, span(6, 60), span(3, 60), only(6), only(3)}, {0, only(5), span(2, 3), only(5), span(2, 3)}, {0, span(4, 6), span(2, 3), span(4, 6), span(2, 3)}, {0, span(3, 5), span(1, 2), span(4, 5), only(2)},
		{1, only(5), all, only(5), only(3)}, {1, span(4, 5), only(3), span(4, 5), only(3)}, {2, all, span(3, 5), only(5), span(3, 4)}, {2, all, span(0, 3), only(5), span(2, 3)}, {2, span(1, 7), span(3, 3), only(5), only(3)},
	} {
		want := exampleCourse()
		want.Pegs[x.peg].Shoot, want.Pegs[x.peg].Walk = x.a, x.b
		if o := narrowed(t, exampleCourse(), x.peg, x.shoot, x.walk); !sameCourse(o, want) {
			t.Error(x, o)
		}
	}
}

// P7.3: fouls of narrower times, after those of the course, and that of the peg.
func TestNarrowFouls(t *testing.T) {
	all := span(0, 60)
	bad := withCourse(func(c *api.FieldCourse) { c.Groups[1].Name = "red" })
	for _, x := range []struct {
		c           api.FieldCourse
		peg         int
		shoot, walk api.Span
		want        api.Foul
	}{
		{exampleCourse(), 0, span(7, 9), all, api.Against}, {exampleCourse(), 0, span(0, 3), all, api.Against}, {exampleCourse(), 0, all, span(0, 1), api.Against}, {exampleCourse(), 0, all, span(4, 60), api.Against}, {exampleCourse(), 0, only(0), only(0), api.Against}, {exampleCourse(), 2, all, only(1), api.Against}, {exampleCourse(), 2, only(60), all, api.Against},
		{exampleCourse(), 0, span(0, 61), all, api.OffLimits}, {exampleCourse(), 0, span(-1, 60), all, api.OffLimits}, {exampleCourse(), 0, span(5, 4), all, api.OffLimits}, {exampleCourse(), 0, all, span(0, 61), api.OffLimits}, {exampleCourse(), 0, all, span(-1, 60), api.OffLimits}, {exampleCourse(), 0, all, span(3, 2), api.OffLimits}, {exampleCourse(), 0, span(7, 9), span(3, 2), api.OffLimits}, {exampleCourse(), 0, span(3, 2), span(7, 9), api.OffLimits}, {exampleCourse(), 0, span(math.MinInt, math.MaxInt), all, api.OffLimits}, {exampleCourse(), 0, all, span(math.MaxInt, math.MinInt), api.OffLimits},
		{exampleCourse(), 3, all, all, api.Unknown}, {exampleCourse(), -1, all, all, api.Unknown}, {exampleCourse(), 3, span(3, 2), all, api.Unknown}, {exampleCourse(), math.MaxInt, span(0, 61), span(7, 9), api.Unknown}, {exampleCourse(), math.MinInt, only(1), only(1), api.Unknown},
		{bad, 0, all, all, api.Twice}, {bad, 3, all, all, api.Twice}, {bad, 0, span(3, 2), all, api.Twice}, {bad, 0, only(1), all, api.Twice},
	} {
		if o, f := field.Narrow(x.c, x.peg, x.shoot, x.walk); !sameCourse(o, api.FieldCourse{}) || f != x.want {
			t.Error(x.peg, x.shoot, x.walk, o, f)
		}
	}
}
