package field_test

import (
	"math"
	"math/rand"
	"slices"
	"testing"

	"nock/api"
	"nock/field"
)

// P7.4: the examples of the chapter, and others.
func TestRescueExamples(t *testing.T) {
	for _, x := range []struct {
		point, minute int
		want          rescued
	}{
		{2, 3, rescued{}}, {2, 5, rescued{list(2, 3, 0), 110, true}}, {2, 30, rescued{list(2, 1, 0), 70, true}}, {2, 6, rescued{list(2, 1, 0), 70, true}}, {2, 14, rescued{list(2, 3, 0), 110, true}}, {2, 22, rescued{list(2, 3, 0), 110, true}}, {2, 23, rescued{list(2, 1, 0), 70, true}}, {2, 999, rescued{list(2, 1, 0), 70, true}},
		{3, 3, rescued{list(3, 0), 80, true}}, {3, 30, rescued{list(3, 0), 80, true}}, {1, 3, rescued{list(1, 0), 40, true}}, {0, 3, rescued{list(0), 0, true}}, {0, 0, rescued{list(0), 0, true}}, {0, 999, rescued{list(0), 0, true}},
	} {
		if o := rescueOf(t, exampleCourse(), x.point, x.minute); !o.same(x.want) {
			t.Error(x, o)
		}
	}
}

// quietCourse is one of a wood without groups, so that all of its paths are open.
func quietCourse(points int, paths ...api.FieldPath) api.FieldCourse {
	c := evenCourse(2, only(5), only(0))
	c.Points, c.Paths = points, paths
	return c
}

// P7.4: the shortest way, and of several the least list of points.
func TestShortestWays(t *testing.T) {
	for i, x := range []struct {
		c     api.FieldCourse
		point int
		want  rescued
	}{
		{quietCourse(1), 0, rescued{list(0), 0, true}},
		{quietCourse(2), 1, rescued{}},
		{quietCourse(2, path(0, 1, 999)), 1, rescued{list(1, 0), 999, true}},
		{quietCourse(2, path(1, 0, 1)), 1, rescued{list(1, 0), 1, true}},
		{quietCourse(4, path(1, 2, 5), path(2, 3, 5), path(3, 1, 5)), 1, rescued{}},
		// The way with more paths is shorter.
		{quietCourse(4, path(3, 0, 10), path(3, 2, 3), path(2, 1, 3), path(1, 0, 3)), 3, rescued{list(3, 2, 1, 0), 9, true}},
		{quietCourse(4, path(3, 0, 9), path(3, 2, 3), path(2, 1, 3), path(1, 0, 3)), 3, rescued{list(3, 0), 9, true}},
		// Of ways that are as long the list decides, not how many points it has, nor the order of paths.
		{quietCourse(4, path(3, 2, 2), path(2, 0, 2), path(3, 1, 2), path(1, 0, 2)), 3, rescued{list(3, 1, 0), 4, true}},
		{quietCourse(4, path(3, 1, 1), path(1, 2, 1), path(2, 0, 2), path(3, 2, 2)), 3, rescued{list(3, 1, 2, 0), 4, true}},
		{quietCourse(5, path(4, 1, 1), path(1, 3, 3), path(4, 2, 3), path(2, 3, 1), path(3, 0, 1)), 4, rescued{list(4, 1, 3, 0), 5, true}},
		{quietCourse(5, path(4, 2, 1), path(2, 3, 3), path(4, 1, 3), path(1, 3, 1), path(3, 0, 1)), 4, rescued{list(4, 1, 3, 0), 5, true}},
		{quietCourse(6, path(5, 4, 1), path(4, 3, 1), path(3, 2, 1), path(2, 1, 1), path(1, 0, 1), path(5, 0, 6)), 5, rescued{list(5, 4, 3, 2, 1, 0), 5, true}},
		{quietCourse(6, path(5, 4, 999), path(4, 3, 999), path(3, 2, 999), path(2, 1, 999), path(1, 0, 999)), 5, rescued{list(5, 4, 3, 2, 1, 0), 4995, true}},
	} {
		if o := rescueOf(t, x.c, x.point, 5); !o.same(x.want) {
			t.Error(i, o)
		}
	}
}

// P7.4: a lane closes a path while a group can be at its peg, surely or not.
func TestClosedPaths(t *testing.T) {
	c := evenCourse(3, span(4, 6), only(2), group("a", 0, 3))
	c.Points, c.Paths = 2, []api.FieldPath{path(0, 1, 7)}
	for peg := range c.Pegs {
		o := copyCourse(c)
		o.Pegs[peg].Lane = list(0)
		come, leave := 3+6*peg, 9+8*peg
		for minute := range 40 {
			want := rescued{list(1, 0), 7, true}
			if come <= minute && minute < leave {
				want = rescued{}
			}
			if x := rescueOf(t, o, 1, minute); !x.same(want) {
				t.Error(peg, minute, x)
			}
		}
		o.Groups = nil
		if x := rescueOf(t, o, 1, 3); !x.found {
			t.Error("a lane without groups", peg)
		}
	}
}

// P7.4, P7.10, P4: Rescue of random courses is the best of all ways.
func TestRescues(t *testing.T) {
	r := rand.New(rand.NewSource(78))
	found, closed, several := 0, 0, 0
	for range 1500 {
		c := randomCourse(r, pick(r, []scale{small, middle, great}))
		if r.Intn(2) == 0 {
			// Of short paths there are often ways that are as long.
			for i := range c.Paths {
				c.Paths[i].Long = 1 + r.Intn(3)
			}
		}
		minute := r.Intn(40)
		shot := shotOf(t, c, minute)
		for point := range c.Points {
			o, want := rescueOf(t, c, point, minute), wantedRescue(c, shot, point)
			if !o.same(want) {
				t.Fatal(c, point, minute, o, want)
			}
			ways := allWays(c, shot, point)
			if slices.ContainsFunc(ways, func(x rescued) bool { return x.long == o.long && !x.same(o) }) {
				several++
			}
			if free := wantedRescue(c, nil, point); free.long != o.long {
				closed++
			}
			if o.found && point > 0 {
				found++
			}
		}
	}
	if found < 1000 || closed < 100 || several < 50 {
		t.Error("too few of a kind", found, closed, several)
	}
}

// P7.10: the way leads to the point 0 on paths that there are, and crosses no lane of a peg where a group can be.
func TestRescueIsAWay(t *testing.T) {
	r := rand.New(rand.NewSource(79))
	for range 500 {
		c := randomCourse(r, middle)
		point, minute := r.Intn(c.Points), r.Intn(40)
		x := rescueOf(t, c, point, minute)
		if !x.found {
			continue
		}
		shot, long := shotOf(t, c, minute), 0
		for i, one := range x.points[1:] {
			two := x.points[i]
			at := slices.IndexFunc(c.Paths, func(p api.FieldPath) bool {
				return p.One == one && p.Two == two || p.One == two && p.Two == one
			})
			if at < 0 || !isOpen(c, shot, at) {
				t.Fatal(c, point, minute, x)
			}
			long += c.Paths[at].Long
		}
		if x.points[0] != point || x.points[len(x.points)-1] != 0 || long != x.long {
			t.Fatal(c, point, minute, x)
		}
	}
}

// P7.4: a point that there is not, and then a minute, after the fouls of the course.
func TestRescueFouls(t *testing.T) {
	bad := withCourse(func(c *api.FieldCourse) { c.Paths[2] = path(2, 2, 5) })
	for _, x := range []struct {
		c             api.FieldCourse
		point, minute int
		want          api.Foul
	}{
		{exampleCourse(), -1, 3, api.Unknown}, {exampleCourse(), 4, 3, api.Unknown}, {exampleCourse(), 4, -1, api.Unknown}, {exampleCourse(), -1, 1000, api.Unknown}, {exampleCourse(), math.MinInt, 3, api.Unknown}, {exampleCourse(), math.MaxInt, 3, api.Unknown},
		{exampleCourse(), 3, -1, api.OffLimits}, {exampleCourse(), 0, 1000, api.OffLimits}, {exampleCourse(), 2, math.MinInt, api.OffLimits}, {exampleCourse(), 2, math.MaxInt, api.OffLimits},
		{bad, 2, 30, api.Circular}, {bad, 4, 3, api.Circular}, {bad, 2, -1, api.Circular},
	} {
		if l, n, is, f := field.Rescue(x.c, x.point, x.minute); len(l) > 0 || n != 0 || is || f != x.want {
			t.Error(x, l, n, is, f)
		}
	}
	// The limit of the minute is not that of the course.
	if x := rescueOf(t, withCourse(func(c *api.FieldCourse) { c.Limit = 1 }), 2, 999); !x.found {
		t.Error(x)
	}
}

// P7.4: the examples of the chapter, and others.
func TestMarshalExamples(t *testing.T) {
	star := []api.FieldPath{path(5, 0, 1), path(1, 5, 1), path(5, 2, 1), path(3, 5, 1)}
	ring := []api.FieldPath{path(0, 1, 1), path(1, 2, 1), path(2, 3, 1), path(3, 4, 1), path(4, 5, 1), path(5, 0, 1)}
	for i, x := range []struct {
		c    api.FieldCourse
		want []int
	}{
		{exampleCourse(), list(0, 2)}, {quietCourse(1), nil}, {quietCourse(6), nil}, {quietCourse(4, exampleCourse().Paths[:3]...), list(0, 2)}, {quietCourse(4, exampleCourse().Paths[:2]...), list(1)}, {quietCourse(4, exampleCourse().Paths[:1]...), list(0)}, {quietCourse(4, path(3, 1, 1)), list(1)}, {quietCourse(4, path(3, 2, 1)), list(2)},
		{quietCourse(6, star...), list(5)}, {quietCourse(6, ring...), list(0, 2, 4)}, {quietCourse(6, ring[1:]...), list(0, 2, 4)}, {quietCourse(6, ring[:5]...), list(0, 2, 4)}, {quietCourse(6, ring[1:5]...), list(2, 4)}, {quietCourse(6, path(0, 1, 1), path(2, 3, 1), path(4, 5, 1)), list(0, 2, 4)}, {quietCourse(3, path(0, 1, 1), path(1, 2, 1), path(2, 0, 1)), list(0, 1)}, {quietCourse(4, path(0, 1, 1), path(0, 2, 1), path(0, 3, 1), path(1, 2, 1), path(1, 3, 1), path(2, 3, 1)), list(0, 1, 2)},
	} {
		if l := marshalsOf(t, x.c); !slices.Equal(l, x.want) {
			t.Error(i, l)
		}
	}
	if l, f := field.Marshals(withCourse(func(c *api.FieldCourse) { c.Points = 0 })); len(l) > 0 || f != api.OffLimits {
		t.Error(l, f)
	}
}

// P7.4, P7.10, P4: Marshals of random woods are the fewest, and of several lists the least one; none of them can be left out.
func TestMarshals(t *testing.T) {
	r := rand.New(rand.NewSource(80))
	many := make(map[int]int)
	for range 1500 {
		c := randomCourse(r, small)
		l := marshalsOf(t, c)
		if !slices.Equal(l, wantedMarshals(c)) {
			t.Fatal(c, l)
		}
		for i := range l {
			if areWatched(c.Paths, slices.Delete(slices.Clone(l), i, i+1)) {
				t.Fatal("one can be left out", c, l)
			}
		}
		many[len(l)]++
	}
	if many[0] < 50 || many[1] < 50 || many[2] < 50 || many[3] < 50 {
		t.Error("too few of a kind", many)
	}
}
