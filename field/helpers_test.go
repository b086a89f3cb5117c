package field_test

import (
	"math/rand"
	"slices"
	"testing"

	"nock/api"
	"nock/field"
)

const (
	yes   = api.Yes
	no    = api.No
	maybe = api.Maybe
)

func list(numbers ...int) []int { return numbers }

func span(least, most int) api.Span { return api.Span{Min: least, Max: most} }

// only returns the span of one number.
func only(n int) api.Span { return span(n, n) }

func path(one, two, long int) api.FieldPath { return api.FieldPath{One: one, Two: two, Long: long} }

// exampleCourse is the course W of the chapter.
func exampleCourse() api.FieldCourse {
	return api.FieldCourse{
		Limit: 60, Points: 4,
		Sizes: []api.Span{span(5, 15), span(10, 18)},
		Paths: []api.FieldPath{path(0, 1, 40), path(1, 2, 30), path(2, 3, 30), path(0, 3, 80)},
		Pegs: []api.FieldPeg{
			{Name: "a", Slant: only(20), Rise: span(0, 12), Size: 1, At: 1, Shoot: span(4, 6), Walk: span(2, 3), Lane: list(1)},
			{Name: "b", Slant: only(13), Rise: only(5), Size: 0, At: 2, Shoot: span(4, 5), Walk: only(3), Lane: list(2)},
			{Name: "c", Slant: only(25), Rise: span(-7, 7), Size: 1, At: 3, Shoot: only(5), Walk: span(2, 4)},
		},
		Groups: []api.FieldGroup{{Name: "red", Start: 0}, {Name: "blue", Start: 1}},
	}
}

func withCourse(change func(c *api.FieldCourse)) api.FieldCourse {
	c := exampleCourse()
	change(&c)
	return c
}

// lateCourse is the course W1 of the chapter.
func lateCourse() api.FieldCourse {
	return withCourse(func(c *api.FieldCourse) { c.Groups[1].Delay = 1 })
}

// greatCourse is as great as a course may be.
func greatCourse() api.FieldCourse {
	c := api.FieldCourse{Limit: 999, Points: 6, Sizes: []api.Span{span(0, 90), only(0), only(90)}}
	for i, ends := range [][2]int{{0, 1}, {2, 0}, {0, 3}, {4, 0}, {0, 5}, {2, 1}, {1, 3}, {4, 1}, {1, 5}} {
		c.Paths = append(c.Paths, path(ends[0], ends[1], 999-i))
	}
	for i := range 5 {
		p := api.FieldPeg{Name: letters[i] + "bcdefghij09", Slant: only(90), Rise: span(-90, 90), Size: i % 3, At: i + 1, Shoot: span(1, 60), Walk: span(0, 60), Lane: list(0, 1, 2, 3, 4, 5, 6, 7, 8)}
		c.Pegs = append(c.Pegs, p)
	}
	for i := range 3 {
		c.Groups = append(c.Groups, api.FieldGroup{Name: letters[i] + "bcdefghij09", Start: 4 - i, Delay: 12})
	}
	return c
}

func samePeg(a, b api.FieldPeg) bool {
	return a.Name == b.Name && a.Slant == b.Slant && a.Rise == b.Rise && a.Size == b.Size && a.At == b.At && a.Shoot == b.Shoot && a.Walk == b.Walk && slices.Equal(a.Lane, b.Lane)
}

func sameCourse(a, b api.FieldCourse) bool {
	return a.Limit == b.Limit && a.Points == b.Points && slices.Equal(a.Sizes, b.Sizes) && slices.Equal(a.Paths, b.Paths) && slices.EqualFunc(a.Pegs, b.Pegs, samePeg) && slices.Equal(a.Groups, b.Groups)
}

func copyCourse(c api.FieldCourse) api.FieldCourse {
	c.Sizes, c.Paths, c.Pegs, c.Groups = slices.Clone(c.Sizes), slices.Clone(c.Paths), slices.Clone(c.Pegs), slices.Clone(c.Groups)
	for i, p := range c.Pegs {
		c.Pegs[i].Lane = slices.Clone(p.Lane)
	}
	return c
}

// fair stops a test if there is a foul.
func fair(t *testing.T, f api.Foul) {
	t.Helper()
	if f != api.Fair {
		t.Fatal("foul", f)
	}
}

func visitsOf(t *testing.T, c api.FieldCourse, group int) []api.FieldVisit {
	t.Helper()
	l, f := field.Visits(c, group)
	fair(t, f)
	return l
}

func endsOf(t *testing.T, c api.FieldCourse, group int) api.Span {
	t.Helper()
	x, f := field.Ends(c, group)
	fair(t, f)
	return x
}

func inTime(t *testing.T, c api.FieldCourse, group int) api.Sure {
	t.Helper()
	x, f := field.InTime(c, group)
	fair(t, f)
	return x
}

func shotOf(t *testing.T, c api.FieldCourse, minute int) []api.Sure {
	t.Helper()
	l, f := field.Shot(c, minute)
	fair(t, f)
	return l
}

func troublesOf(t *testing.T, c api.FieldCourse) []api.FieldTrouble {
	t.Helper()
	l, f := field.Troubles(c)
	fair(t, f)
	return l
}

func isSafe(t *testing.T, c api.FieldCourse) bool {
	t.Helper()
	is, f := field.Safe(c)
	fair(t, f)
	return is
}

func delaysOf(t *testing.T, c api.FieldCourse) (delays []int, found bool) {
	t.Helper()
	delays, found, f := field.Delays(c)
	fair(t, f)
	return delays, found
}

func delayed(t *testing.T, c api.FieldCourse, delays []int) api.FieldCourse {
	t.Helper()
	o, f := field.Delayed(c, delays)
	fair(t, f)
	return o
}

func narrowed(t *testing.T, c api.FieldCourse, peg int, shoot, walk api.Span) api.FieldCourse {
	t.Helper()
	o, f := field.Narrow(c, peg, shoot, walk)
	fair(t, f)
	return o
}

// rescued is what Rescue returns.
type rescued struct {
	points []int
	long   int
	found  bool
}

func (a rescued) same(b rescued) bool {
	return slices.Equal(a.points, b.points) && a.long == b.long && a.found == b.found
}

func rescueOf(t *testing.T, c api.FieldCourse, point, minute int) rescued {
	t.Helper()
	points, long, found, f := field.Rescue(c, point, minute)
	fair(t, f)
	return rescued{points, long, found}
}

func marshalsOf(t *testing.T, c api.FieldCourse) []int {
	t.Helper()
	l, f := field.Marshals(c)
	fair(t, f)
	return l
}

// pick returns one of some elements.
func pick[T any](r *rand.Rand, all []T) T { return all[r.Intn(len(all))] }

// isIn says whether a number is one of a span.
func isIn(n int, x api.Span) bool { return x.Min <= n && n <= x.Max }

// isPartOf says whether all numbers of a span are in another one.
func isPartOf(a, b api.Span) bool { return b.Min <= a.Min && a.Max <= b.Max }

var letters = []string{"a", "b", "c", "d", "e"}

// randomSpan returns a span from least to most, with at most so many numbers more than one.
func randomSpan(r *rand.Rand, least, most, wide int) api.Span {
	n := least + r.Intn(most-least+1)
	return span(n, min(n+r.Intn(wide+1), most))
}

// scale is how great a random course is: how many pegs and groups it has at most, from which minutes times are, and how wide their spans are.
type scale struct{ pegs, groups, minutes, wide int }

var (
	small  = scale{3, 3, 7, 2}
	middle = scale{5, 3, 12, 3}
	great  = scale{5, 3, 60, 60}
)

func randomPeg(r *rand.Rand, c api.FieldCourse, name string, s scale) api.FieldPeg {
	p := api.FieldPeg{Name: name, Slant: randomSpan(r, 1, 90, 9)}
	p.Rise = randomSpan(r, -p.Slant.Min, p.Slant.Min, 20)
	p.Size, p.At = r.Intn(len(c.Sizes)), r.Intn(c.Points)
	p.Shoot, p.Walk = randomSpan(r, 1, s.minutes, s.wide), randomSpan(r, 0, s.minutes/2, s.wide)
	for i := range c.Paths {
		if r.Intn(4) == 0 {
			p.Lane = append(p.Lane, i)
		}
	}
	return p
}

// randomPaths returns paths between some of the points.
func randomPaths(r *rand.Rand, points, long int) []api.FieldPath {
	var all []api.FieldPath
	for one := range points {
		for two := range one {
			p := path(one, two, 1+r.Intn(long))
			if r.Intn(2) == 0 {
				p.One, p.Two = two, one
			}
			all = append(all, p)
		}
	}
	r.Shuffle(len(all), func(i, j int) { all[i], all[j] = all[j], all[i] })
	return all[:r.Intn(min(len(all), api.MaxFieldPaths)+1)]
}

func randomCourse(r *rand.Rand, s scale) api.FieldCourse {
	c := api.FieldCourse{Limit: 1 + r.Intn(s.minutes*s.pegs*2), Points: 1 + r.Intn(api.MaxFieldPoints)}
	for range 1 + r.Intn(3) {
		c.Sizes = append(c.Sizes, randomSpan(r, 0, 90, 40))
	}
	c.Paths = randomPaths(r, c.Points, 1+r.Intn(5)*r.Intn(200))
	for i := range 2 + r.Intn(s.pegs-1) {
		c.Pegs = append(c.Pegs, randomPeg(r, c, letters[i], s))
	}
	starts := r.Perm(len(c.Pegs))
	for i := range min(r.Intn(s.groups+1), len(starts)) {
		c.Groups = append(c.Groups, api.FieldGroup{Name: letters[i], Start: starts[i], Delay: r.Intn(13) * r.Intn(3) / 2})
	}
	return c
}

// likelyCourse returns a course whose groups often do not meet: times differ little from peg to peg.
func likelyCourse(r *rand.Rand, s scale) api.FieldCourse {
	c := randomCourse(r, s)
	c.Limit = 999
	shoot, walk := 1+r.Intn(s.minutes), 1+r.Intn(s.minutes)
	for i := range c.Pegs {
		c.Pegs[i].Shoot, c.Pegs[i].Walk = randomSpan(r, shoot, shoot+1, s.wide/2), randomSpan(r, walk, walk+1, s.wide/2)
	}
	for i := range c.Groups {
		c.Groups[i].Delay = r.Intn(3)
	}
	return c
}
