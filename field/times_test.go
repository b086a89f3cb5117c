package field_test

import (
	"math"
	"math/rand"
	"slices"
	"testing"

	"nock/api"
	"nock/field"
)

// P7.2: the examples of the chapter.
func TestVisitExamples(t *testing.T) {
	for group, x := range []struct {
		visits []api.FieldVisit
		ends   api.Span
	}{
		{[]api.FieldVisit{{Peg: 0, Come: only(0), Go: span(4, 6)}, {Peg: 1, Come: span(6, 9), Go: span(10, 14)}, {Peg: 2, Come: span(13, 17), Go: span(18, 22)}}, span(18, 22)},
		{[]api.FieldVisit{{Peg: 1, Come: only(0), Go: span(4, 5)}, {Peg: 2, Come: span(7, 8), Go: span(12, 13)}, {Peg: 0, Come: span(14, 17), Go: span(18, 23)}}, span(18, 23)},
	} {
		if l := visitsOf(t, exampleCourse(), group); !slices.Equal(l, x.visits) {
			t.Error(group, l)
		}
		if e := endsOf(t, exampleCourse(), group); e != x.ends {
			t.Error(group, e)
		}
	}
	c := withCourse(func(c *api.FieldCourse) { c.Groups[1].Start, c.Groups[1].Delay = 2, 12 })
	want := []api.FieldVisit{{Peg: 2, Come: only(12), Go: only(17)}, {Peg: 0, Come: span(19, 21), Go: span(23, 27)}, {Peg: 1, Come: span(25, 30), Go: span(29, 35)}}
	if l := visitsOf(t, c, 1); !slices.Equal(l, want) {
		t.Error(l)
	}
	if e := endsOf(t, greatCourse(), 0); e != span(17, 552) {
		t.Error(e)
	}
}

// P7.2: a group is in time if it ends in the minute Limit or earlier.
func TestInTimeExamples(t *testing.T) {
	for limit, want := range map[int][]api.Sure{60: {yes, yes}, 23: {yes, yes}, 22: {yes, maybe}, 21: {maybe, maybe}, 18: {maybe, maybe}, 17: {no, no}, 1: {no, no}, 999: {yes, yes}} {
		c := withCourse(func(c *api.FieldCourse) { c.Limit = limit })
		for group, is := range want {
			if s := inTime(t, c, group); s != is {
				t.Error(limit, group, s)
			}
		}
	}
	// One who starts later ends later.
	for limit, want := range map[int]api.Sure{23: yes, 22: maybe, 19: maybe, 18: no} {
		c := withCourse(func(c *api.FieldCourse) { c.Limit, c.Groups[0].Delay = limit, 1 })
		if s := inTime(t, c, 0); s != want {
			t.Error(limit, s)
		}
	}
}

// P7.2: the examples of the chapter, and others.
func TestShotExamples(t *testing.T) {
	for minute, want := range map[int][]api.Sure{
		0: {yes, yes, no}, 3: {yes, yes, no}, 4: {maybe, maybe, no}, 5: {maybe, no, no}, 6: {no, maybe, no}, 7: {no, maybe, maybe}, 8: {no, maybe, yes}, 9: {no, yes, yes}, 10: {no, maybe, yes}, 12: {no, maybe, maybe}, 13: {no, maybe, maybe}, 14: {maybe, no, maybe}, 17: {yes, no, yes}, 18: {maybe, no, maybe}, 21: {maybe, no, maybe}, 22: {maybe, no, no}, 23: {no, no, no}, 60: {no, no, no}, 999: {no, no, no},
	} {
		if l := shotOf(t, exampleCourse(), minute); !slices.Equal(l, want) {
			t.Error(minute, l)
		}
	}
	// Two groups that can be there do not make it sure, one that is surely there does.
	if l := shotOf(t, lateCourse(), 13); !slices.Equal(l, []api.Sure{no, maybe, maybe}) {
		t.Error(l)
	}
	if l := shotOf(t, withCourse(func(c *api.FieldCourse) { c.Groups[1].Delay = 8 }), 11); !slices.Equal(l, []api.Sure{no, yes, no}) {
		t.Error(l)
	}
	if l := shotOf(t, withCourse(func(c *api.FieldCourse) { c.Groups = nil }), 0); !slices.Equal(l, []api.Sure{no, no, no}) {
		t.Error(l)
	}
}

// P7.2, P7.6: Visits, Ends and InTime of random courses are those of all truths.
func TestTimes(t *testing.T) {
	r := rand.New(rand.NewSource(72))
	many := make(map[api.Sure]int)
	for i := range 600 {
		c := randomCourse(r, pick(r, []scale{small, middle}))
		if i%100 == 0 {
			c = randomCourse(r, great)
		}
		for group := range c.Groups {
			if l := visitsOf(t, c, group); !slices.Equal(l, wantedVisits(c, group)) {
				t.Fatal(c, group, l)
			}
			end := endsOf(t, c, group)
			if end != wantedEnds(c, group) {
				t.Fatal(c, group, end)
			}
			for _, limit := range list(c.Limit, end.Min-1, end.Min, end.Max-1, end.Max) {
				c.Limit = max(1, limit)
				s := inTime(t, c, group)
				if s != wantedInTime(c, group) {
					t.Fatal(c, group, s)
				}
				many[s]++
			}
		}
	}
	if many[yes] < 300 || many[no] < 300 || many[maybe] < 300 {
		t.Error("too few of a kind", many)
	}
}

// P7.2, P7.6: Shot of random courses is that of all truths.
func TestShots(t *testing.T) {
	r := rand.New(rand.NewSource(73))
	many := make(map[api.Sure]int)
	for range 200 {
		c := randomCourse(r, pick(r, []scale{small, middle}))
		stays := allStays(c)
		for minute := range 60 {
			l := shotOf(t, c, minute)
			if !slices.Equal(l, wantedShot(c, stays, minute)) {
				t.Fatal(c, minute, l)
			}
			for _, s := range l {
				many[s]++
			}
		}
	}
	if many[yes] < 1000 || many[no] < 1000 || many[maybe] < 1000 {
		t.Error("too few of a kind", many)
	}
}

// randomTour returns a truth of a group: its stays.
func randomTour(r *rand.Rand, c api.FieldCourse, group int) []stay {
	all := make([]stay, len(c.Pegs))
	now := c.Groups[group].Delay
	for _, peg := range order(c, group) {
		p := c.Pegs[peg]
		leave := now + pick(r, list(p.Shoot.Min, p.Shoot.Max, p.Shoot.Min+r.Intn(p.Shoot.Max-p.Shoot.Min+1)))
		all[peg] = stay{now, leave}
		now = leave + pick(r, list(p.Walk.Min, p.Walk.Max, p.Walk.Min+r.Intn(p.Walk.Max-p.Walk.Min+1)))
	}
	return all
}

// checkTour looks whether a truth of a group lies in what is returned.
func checkTour(t *testing.T, c api.FieldCourse, group int, tour []stay) {
	t.Helper()
	end := 0
	for _, v := range visitsOf(t, c, group) {
		s := tour[v.Peg]
		if !isIn(s.come, v.Come) || !isIn(s.leave, v.Go) {
			t.Fatal(c, group, v, s)
		}
		end = max(end, s.leave)
	}
	if !isIn(end, endsOf(t, c, group)) {
		t.Fatal(c, group, end)
	}
	if is := inTime(t, c, group); is == yes && end > c.Limit || is == no && end <= c.Limit {
		t.Fatal(c, group, is, end)
	}
}

// P7.6, P2: whatever the real times are, they lie in what is returned; who surely meet do, and in a safe course nobody does.
func TestRealTimes(t *testing.T) {
	r := rand.New(rand.NewSource(74))
	safe, surely := 0, 0
	for i := range 1500 {
		c := randomCourse(r, pick(r, []scale{small, middle, great}))
		if i%2 == 0 {
			c = likelyCourse(r, middle)
		}
		var tours [][]stay
		for group := range c.Groups {
			tour := randomTour(r, c, group)
			checkTour(t, c, group, tour)
			tours = append(tours, tour)
		}
		for range 10 {
			minute := r.Intn(80)
			for peg, is := range shotOf(t, c, minute) {
				really := slices.ContainsFunc(tours, func(tour []stay) bool { return tour[peg].has(minute) })
				if is == yes && !really || is == no && really {
					t.Fatal(c, minute, peg, is, tours)
				}
			}
		}
		said := make(map[[3]int]api.FieldTrouble)
		for _, x := range troublesOf(t, c) {
			said[[3]int{x.One, x.Two, x.Peg}] = x
		}
		for two := range tours {
			for one := range two {
				for peg := range c.Pegs {
					from, is := firstBoth(tours[one][peg], tours[two][peg])
					x, found := said[[3]int{one, two, peg}]
					if is && (!found || from < x.From) || found && x.Meet == yes && !is {
						t.Fatal(c, tours, one, two, peg, x)
					}
					if is && x.Meet == yes {
						surely++
					}
				}
			}
		}
		if isSafe(t, c) {
			safe += len(c.Groups)
			if len(said) > 0 {
				t.Fatal("a safe course with troubles", c, said)
			}
		}
	}
	if safe < 100 || surely < 100 {
		t.Error("too few are safe, or meet", safe, surely)
	}
}

// P7.2: a group that there is not, or a minute, after the fouls of the course.
func TestTimeFouls(t *testing.T) {
	bad := withCourse(func(c *api.FieldCourse) { c.Groups[1].Name = "" })
	empty := withCourse(func(c *api.FieldCourse) { c.Groups = nil })
	for _, x := range []struct {
		c     api.FieldCourse
		group int
		want  api.Foul
	}{
		{exampleCourse(), -1, api.Unknown}, {exampleCourse(), 2, api.Unknown}, {exampleCourse(), math.MinInt, api.Unknown}, {exampleCourse(), math.MaxInt, api.Unknown}, {empty, 0, api.Unknown}, {bad, 0, api.BadName}, {bad, -1, api.BadName},
	} {
		if l, f := field.Visits(x.c, x.group); len(l) > 0 || f != x.want {
			t.Error(x, l, f)
		}
		if e, f := field.Ends(x.c, x.group); e != span(0, 0) || f != x.want {
			t.Error(x, e, f)
		}
		if s, f := field.InTime(x.c, x.group); s != maybe || f != x.want {
			t.Error(x, s, f)
		}
	}
	for _, minute := range list(-1, 1000, math.MinInt, math.MaxInt) {
		if l, f := field.Shot(exampleCourse(), minute); len(l) > 0 || f != api.OffLimits {
			t.Error(minute, l, f)
		}
		if l, f := field.Shot(bad, minute); len(l) > 0 || f != api.BadName {
			t.Error(minute, l, f)
		}
	}
}
