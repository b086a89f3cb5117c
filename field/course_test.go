package field_test

import (
	"math"
	"slices"
	"testing"

	"nock/api"
	"nock/field"
)

// checkCourses looks for the foul of each change of the course of the chapter.
func checkCourses(t *testing.T, want api.Foul, changes ...func(c *api.FieldCourse)) {
	t.Helper()
	for i, change := range changes {
		if f := field.CheckCourse(withCourse(change)); f != want {
			t.Error(i, f)
		}
	}
}

// P7.1: courses without fouls, up to the limits.
func TestFairCourses(t *testing.T) {
	checkCourses(t, api.Fair,
		func(c *api.FieldCourse) {},
		func(c *api.FieldCourse) { *c = greatCourse() },
		func(c *api.FieldCourse) { c.Limit = 1 },
		func(c *api.FieldCourse) { c.Limit = 999 },
		func(c *api.FieldCourse) { c.Points = 6 },
		func(c *api.FieldCourse) {
			c.Points, c.Paths = 1, nil
			for i := range c.Pegs {
				c.Pegs[i].At, c.Pegs[i].Lane = 0, nil
			}
		},
		func(c *api.FieldCourse) { c.Sizes = []api.Span{only(0), only(90), span(0, 90)} },
		func(c *api.FieldCourse) { c.Sizes[1] = c.Sizes[0] },
		func(c *api.FieldCourse) { c.Paths[0].Long, c.Paths[1].Long = 1, 999 },
		func(c *api.FieldCourse) { c.Paths[0] = path(3, 1, 5) },
		func(c *api.FieldCourse) { c.Pegs = c.Pegs[:2] },
		func(c *api.FieldCourse) { c.Pegs[0].Name, c.Pegs[1].Name = "z", "a0z9" },
		func(c *api.FieldCourse) { c.Pegs[0].Name = "abcdefghij01" },
		func(c *api.FieldCourse) { c.Pegs[0].At, c.Pegs[1].At = 0, 0 },
		func(c *api.FieldCourse) { c.Pegs[0].Slant, c.Pegs[0].Rise = only(1), span(-1, 1) },
		func(c *api.FieldCourse) { c.Pegs[0].Slant, c.Pegs[0].Rise = span(90, 90), span(-90, 90) },
		func(c *api.FieldCourse) { c.Pegs[0].Slant, c.Pegs[0].Rise = span(7, 90), span(-7, 7) },
		func(c *api.FieldCourse) { c.Pegs[0].Rise = span(-3, -2) },
		func(c *api.FieldCourse) { c.Pegs[0].Shoot, c.Pegs[0].Walk = only(1), only(0) },
		func(c *api.FieldCourse) { c.Pegs[0].Shoot, c.Pegs[0].Walk = span(1, 60), span(0, 60) },
		func(c *api.FieldCourse) { c.Pegs[0].Lane = list(0, 1, 2, 3) },
		func(c *api.FieldCourse) { c.Pegs[0].Lane = list(0, 3) },
		func(c *api.FieldCourse) { c.Groups = nil },
		func(c *api.FieldCourse) { c.Groups = c.Groups[:1] },
		func(c *api.FieldCourse) { c.Groups = append(c.Groups, api.FieldGroup{Name: "a", Start: 2, Delay: 12}) },
		func(c *api.FieldCourse) { c.Groups[0].Name = "abcdefghij01" })
}

// P7.1: each foul of a course that a number or a kind can have.
func TestCourseNumbers(t *testing.T) {
	for _, n := range list(0, -1, math.MinInt, 1000, math.MaxInt) {
		checkCourses(t, api.OffLimits,
			func(c *api.FieldCourse) { c.Limit = n },
			func(c *api.FieldCourse) { c.Paths[3].Long = n })
	}
	for _, n := range list(0, -1, math.MinInt, 7, math.MaxInt) {
		checkCourses(t, api.OffLimits, func(c *api.FieldCourse) { c.Points = n })
	}
	for _, x := range []api.Span{span(-1, 5), span(5, 91), span(6, 5), span(math.MinInt, 5), span(5, math.MaxInt), span(math.MaxInt, math.MinInt), only(-1), only(91)} {
		checkCourses(t, api.OffLimits,
			func(c *api.FieldCourse) { c.Sizes[0] = x },
			func(c *api.FieldCourse) { c.Sizes[1] = x },
			func(c *api.FieldCourse) { c.Pegs[0].Slant = x },
			func(c *api.FieldCourse) { c.Pegs[2].Slant = x })
	}
	for _, x := range []api.Span{span(-91, 5), span(5, 91), span(6, 5), span(math.MinInt, 5), span(5, math.MaxInt), span(-5, -6)} {
		checkCourses(t, api.OffLimits, func(c *api.FieldCourse) { c.Pegs[1].Rise = x })
	}
	for _, x := range []api.Span{span(-1, 5), span(5, 61), span(6, 5), span(math.MinInt, 5), span(5, math.MaxInt), only(61)} {
		checkCourses(t, api.OffLimits,
			func(c *api.FieldCourse) { c.Pegs[0].Shoot = x },
			func(c *api.FieldCourse) { c.Pegs[2].Walk = x })
	}
	checkCourses(t, api.OffLimits,
		func(c *api.FieldCourse) { c.Pegs[0].Slant = span(0, 20) },
		func(c *api.FieldCourse) { c.Pegs[0].Shoot = span(0, 6) })
	for _, n := range list(-1, 13, math.MinInt, math.MaxInt) {
		checkCourses(t, api.OffLimits,
			func(c *api.FieldCourse) { c.Groups[0].Delay = n },
			func(c *api.FieldCourse) { c.Groups[1].Delay = n })
	}
}

// P7.1: each foul of something that there is not, or is twice.
func TestCourseThings(t *testing.T) {
	for _, n := range list(-1, 4, 5, math.MinInt, math.MaxInt) {
		checkCourses(t, api.Unknown,
			func(c *api.FieldCourse) { c.Paths[0].One = n },
			func(c *api.FieldCourse) { c.Paths[3].Two = n },
			func(c *api.FieldCourse) { c.Paths[3].One, c.Paths[3].Two = n, n },
			func(c *api.FieldCourse) { c.Pegs[0].At = n },
			func(c *api.FieldCourse) { c.Pegs[0].Lane = list(n) },
			func(c *api.FieldCourse) { c.Pegs[2].Lane = list(0, n) },
			func(c *api.FieldCourse) { c.Groups[0].Start = n })
	}
	for _, n := range list(-1, 2, math.MinInt, math.MaxInt) {
		checkCourses(t, api.Unknown, func(c *api.FieldCourse) { c.Pegs[2].Size = n })
	}
	checkCourses(t, api.Unknown,
		func(c *api.FieldCourse) { c.Points = 3 },
		func(c *api.FieldCourse) { c.Paths = c.Paths[:2] },
		func(c *api.FieldCourse) { c.Groups[1].Start = 3 })
	checkCourses(t, api.Circular,
		func(c *api.FieldCourse) { c.Paths[0] = path(0, 0, 5) },
		func(c *api.FieldCourse) { c.Paths[3] = path(3, 3, 80) })
	checkCourses(t, api.Twice,
		func(c *api.FieldCourse) { c.Paths[3] = path(0, 1, 50) },
		func(c *api.FieldCourse) { c.Paths[3] = path(1, 0, 50) },
		func(c *api.FieldCourse) { c.Paths[3] = path(2, 1, 50) },
		func(c *api.FieldCourse) { c.Paths[3] = c.Paths[2] },
		func(c *api.FieldCourse) { c.Pegs[1].Name = "a" },
		func(c *api.FieldCourse) { c.Pegs[2].Name = "a" },
		func(c *api.FieldCourse) { c.Pegs[2].Name = "b" },
		func(c *api.FieldCourse) { c.Groups[1].Name = "red" })
	checkCourses(t, api.OutOfOrder,
		func(c *api.FieldCourse) { c.Pegs[0].Lane = list(1, 1) },
		func(c *api.FieldCourse) { c.Pegs[1].Lane = list(1, 0) },
		func(c *api.FieldCourse) { c.Pegs[2].Lane = list(0, 2, 1) },
		func(c *api.FieldCourse) { c.Pegs[2].Lane = list(0, 1, 2, 3, 0) })
	checkCourses(t, api.Against,
		func(c *api.FieldCourse) { c.Groups[1].Start = 0 },
		func(c *api.FieldCourse) { c.Groups = append(c.Groups, api.FieldGroup{Name: "g", Start: 0}) },
		func(c *api.FieldCourse) { c.Groups = append(c.Groups, api.FieldGroup{Name: "g", Start: 1}) })
	for _, x := range []api.Span{span(0, 14), span(-14, 0), only(14), only(-14), span(-90, 90), span(14, 20), span(-20, -14)} {
		checkCourses(t, api.Against,
			func(c *api.FieldCourse) { c.Pegs[1].Rise = x },
			func(c *api.FieldCourse) { c.Pegs[1].Rise, c.Pegs[1].Slant = x, span(13, 90) })
	}
}

// P7.1: each foul of a number of elements, and of names.
func TestCourseCountsAndNames(t *testing.T) {
	checkCourses(t, api.BadCount,
		func(c *api.FieldCourse) { c.Sizes = nil },
		func(c *api.FieldCourse) { c.Sizes = []api.Span{} },
		func(c *api.FieldCourse) { c.Sizes = slices.Repeat(c.Sizes, 2) },
		func(c *api.FieldCourse) { c.Paths = make([]api.FieldPath, 10) },
		func(c *api.FieldCourse) { c.Pegs = nil },
		func(c *api.FieldCourse) { c.Pegs = c.Pegs[:1] },
		func(c *api.FieldCourse) { c.Pegs = slices.Repeat(c.Pegs, 2) },
		func(c *api.FieldCourse) { c.Groups = slices.Repeat(c.Groups, 2) },
		func(c *api.FieldCourse) { c.Groups = make([]api.FieldGroup, 4) })
	for _, name := range []string{"", "A", "aB", "1", "1a", "a b", "a_", "ä", "a\n", "\xff", "a\x00", "abcdefghij012", "a`", "a{", "a/", "a:"} {
		checkCourses(t, api.BadName,
			func(c *api.FieldCourse) { c.Pegs[0].Name = name },
			func(c *api.FieldCourse) { c.Pegs[2].Name = name },
			func(c *api.FieldCourse) { c.Groups[1].Name = name })
	}
}

// P7.1, R1: of several fouls the first one: what is before it is mended step by step.
func TestCourseFoulOrder(t *testing.T) {
	c := api.FieldCourse{Limit: 0, Points: 4, Sizes: make([]api.Span, 4), Paths: make([]api.FieldPath, 10), Pegs: make([]api.FieldPeg, 6), Groups: make([]api.FieldGroup, 4)}
	check := func(want api.Foul) {
		t.Helper()
		if f := field.CheckCourse(c); f != want {
			t.Error(f, want)
		}
	}
	check(api.OffLimits)
	c.Limit = 60
	check(api.BadCount)
	c.Sizes = []api.Span{span(2, 1), span(0, 91)}
	check(api.OffLimits)
	c.Sizes[0] = span(5, 15)
	check(api.OffLimits)
	c.Sizes[1] = span(10, 18)
	check(api.BadCount)
	c.Paths = []api.FieldPath{path(0, 1, 40), path(4, 4, 0)}
	check(api.Unknown)
	c.Paths[1] = path(1, 1, 0)
	check(api.Circular)
	c.Paths[1] = path(1, 0, 0)
	check(api.OffLimits)
	c.Paths[1] = path(1, 0, 5)
	check(api.Twice)
	c.Paths[1] = path(1, 2, 5)
	check(api.BadCount)
	checkPegOrder(t, c)
	c.Pegs = exampleCourse().Pegs
	c.Pegs[1].Lane = nil
	check(api.BadCount)
	c.Groups = []api.FieldGroup{{Name: "a", Start: 2, Delay: 0}, {Name: "", Start: 3, Delay: 13}, {Name: "", Start: 9}}
	check(api.BadName)
	c.Groups[1].Name = "a"
	check(api.Twice)
	c.Groups[1].Name = "b"
	check(api.Unknown)
	c.Groups[1].Start = 2
	check(api.Against)
	c.Groups[1].Start = 1
	check(api.OffLimits)
	c.Groups[1].Delay = 12
	check(api.BadName)
	c.Groups = c.Groups[:2]
	check(api.Fair)
}

// checkPegOrder looks for the fouls of the second peg of a course with 2 paths, one after the other.
func checkPegOrder(t *testing.T, c api.FieldCourse) {
	t.Helper()
	c.Pegs = slices.Clone(exampleCourse().Pegs)
	p := &c.Pegs[1]
	*p = api.FieldPeg{Name: "", Slant: span(20, 91), Rise: span(5, 91), Size: 2, At: 4, Shoot: span(0, 5), Walk: span(0, 61), Lane: list(1, 1)}
	for i, x := range []struct {
		want api.Foul
		mend func()
	}{
		{api.BadName, func() { p.Name = "a" }},
		{api.Twice, func() { p.Name = "b" }},
		{api.OffLimits, func() { p.Slant = span(20, 90) }},
		{api.OffLimits, func() { p.Rise = span(5, 21) }},
		{api.Against, func() { p.Rise = span(5, 20) }},
		{api.Unknown, func() { p.Size = 1 }},
		{api.Unknown, func() { p.At = 3 }},
		{api.OffLimits, func() { p.Shoot = only(5) }},
		{api.OffLimits, func() { p.Walk = only(0) }},
		{api.OutOfOrder, func() { p.Lane = list(1, 2, 0) }},
		{api.Unknown, func() { p.Lane = list(1, -1) }},
		{api.Unknown, func() { p.Lane = list(2) }},
		{api.Unknown, func() { p.Lane = list(0, 1, 1, 2) }},
		{api.OutOfOrder, func() { p.Lane, c.Pegs[2].Name = nil, "" }},
		{api.BadName, func() { c.Pegs[2].Name = "c" }},
		{api.BadCount, func() {}},
	} {
		if f := field.CheckCourse(c); f != x.want {
			t.Error(i, f, x.want)
		}
		x.mend()
	}
}
