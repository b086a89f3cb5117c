package field_test

import (
	"math"
	"math/rand"
	"reflect"
	"slices"
	"testing"

	"nock/api"
	"nock/field"
)

// anyNumber returns a number that may be of every kind: great, at a limit, or below 0.
func anyNumber(r *rand.Rand) int {
	return pick(r, list(0, 0, 1, 1, 2, 3, 4, 5, 6, 7, 12, 13, 60, 61, 63, 64, 90, 91, 255, 256, 999, 1000, -1, -90, -91, math.MinInt, math.MaxInt))
}

func anyNumbers(r *rand.Rand, most int) []int {
	var all []int
	for range r.Intn(most + 1) {
		all = append(all, anyNumber(r))
	}
	return all
}

func anyName(r *rand.Rand) string {
	return pick(r, []string{"", "a", "b", "B", "1", "a1", "a\n", "\xff", "abcdefghij01", "abcdefghij012"})
}

func anySpan(r *rand.Rand) api.Span { return span(anyNumber(r), anyNumber(r)) }

// anyPeg changes something of a peg.
func anyPeg(r *rand.Rand, p *api.FieldPeg) {
	switch r.Intn(8) {
	case 0:
		p.Name = anyName(r)
	case 1:
		p.Slant = anySpan(r)
	case 2:
		p.Rise = anySpan(r)
	case 3:
		p.Size = anyNumber(r)
	case 4:
		p.At = anyNumber(r)
	case 5:
		p.Shoot = anySpan(r)
	case 6:
		p.Walk = anySpan(r)
	case 7:
		p.Lane = append(p.Lane, pick(r, [][]int{p.Lane, anyNumbers(r, 3)})...)
	}
}

// anyCourse returns a course that has fouls often.
func anyCourse(r *rand.Rand) api.FieldCourse {
	c := randomCourse(r, pick(r, []scale{small, middle, great}))
	switch r.Intn(20) {
	case 0:
		c.Limit = anyNumber(r)
	case 1:
		c.Points = anyNumber(r)
	case 2:
		c.Sizes = append(c.Sizes, anySpan(r))
	case 3:
		c.Paths = append(c.Paths, path(anyNumber(r), anyNumber(r), anyNumber(r)))
	case 4:
		c.Paths = slices.Repeat(c.Paths, 2)
	case 5, 6, 7, 8:
		anyPeg(r, &c.Pegs[r.Intn(len(c.Pegs))])
	case 9:
		c.Pegs = slices.Repeat(c.Pegs, 2)
	case 10, 11:
		c.Groups = append(c.Groups, group(anyName(r), anyNumber(r), anyNumber(r)))
	case 12:
		c.Groups = slices.Repeat(c.Groups, 2)
	case 13:
		c.Pegs, c.Sizes = c.Pegs[:r.Intn(2)], c.Sizes[:r.Intn(2)]
	}
	return c
}

// zero says whether results, and lists in them, are as they must be beside a foul.
func zero(results ...any) bool {
	for _, x := range results {
		if v := reflect.ValueOf(x); !v.IsZero() && (v.Kind() != reflect.Slice || v.Len() > 0) {
			return false
		}
	}
	return true
}

// result is what a call returned: its foul, and all else.
type result struct {
	f    api.Foul
	rest []any
}

// question is what calls are given.
type question struct {
	c                         api.FieldCourse
	peg, group, point, minute int
	delays                    []int
	shoot, walk               api.Span
}

func anyQuestion(r *rand.Rand) question {
	q := question{c: anyCourse(r), peg: r.Intn(3), group: r.Intn(2), point: r.Intn(3), minute: r.Intn(40), shoot: span(0, 60), walk: span(r.Intn(3), 60)}
	for range q.c.Groups {
		q.delays = append(q.delays, r.Intn(13))
	}
	switch r.Intn(8) {
	case 0:
		q.peg, q.group, q.point = anyNumber(r), anyNumber(r), anyNumber(r)
	case 1:
		q.minute = anyNumber(r)
	case 2:
		q.delays = anyNumbers(r, 4)
	case 3:
		q.shoot, q.walk = anySpan(r), anySpan(r)
	}
	return q
}

func (q question) copied() question {
	q.c, q.delays = copyCourse(q.c), slices.Clone(q.delays)
	return q
}

func parts(c api.FieldCourse) []any {
	return []any{c.Limit, c.Points, c.Sizes, c.Paths, c.Pegs, c.Groups}
}

// courseCalls calls each function with a course alone.
func courseCalls(q question) []result {
	a, f1 := field.Troubles(q.c)
	b, f2 := field.Safe(q.c)
	c, d, f3 := field.Delays(q.c)
	e, f4 := field.Marshals(q.c)
	s, f5 := field.Print(q.c)
	return []result{{field.CheckCourse(q.c), nil}, {f1, []any{a}}, {f2, []any{b}}, {f3, []any{c, d}}, {f4, []any{e}}, {f5, []any{s}}}
}

// groupCalls calls each function with a group.
func groupCalls(q question) []result {
	a, f1 := field.Visits(q.c, q.group)
	b, f2 := field.Ends(q.c, q.group)
	c, f3 := field.InTime(q.c, q.group)
	return []result{{f1, []any{a}}, {f2, []any{b}}, {f3, []any{c}}}
}

// pegCalls calls each function with a peg alone.
func pegCalls(q question) []result {
	a, f1 := field.Distance(q.c, q.peg)
	b, f2 := field.Allowed(q.c, q.peg)
	return []result{{f1, []any{a}}, {f2, []any{b}}}
}

// otherCalls calls the functions that have fouls of their own.
func otherCalls(q question) []result {
	a, f1 := field.Shot(q.c, q.minute)
	b, f2 := field.Delayed(q.c, q.delays)
	c, f3 := field.Narrow(q.c, q.peg, q.shoot, q.walk)
	points, long, found, f4 := field.Rescue(q.c, q.point, q.minute)
	n, f5 := field.Level(q.peg, q.point)
	return []result{{f1, []any{a}}, {f2, parts(b)}, {f3, parts(c)}, {f4, []any{points, long, found}}, {f5, []any{n}}}
}

func allCalls(q question) []result {
	return slices.Concat(courseCalls(q), groupCalls(q), pegCalls(q), otherCalls(q))
}

// checkSame looks for calls with another foul than the one that all of them must have.
func checkSame(t *testing.T, q question, want api.Foul, results []result) {
	t.Helper()
	for i, x := range results {
		if x.f != want {
			t.Fatal("another foul", q, i, x, want)
		}
	}
}

// orElse returns the first foul of some.
func orElse(fouls ...api.Foul) api.Foul {
	for _, f := range fouls {
		if f != api.Fair {
			return f
		}
	}
	return api.Fair
}

// unless returns a foul unless something is so.
func unless(is bool, f api.Foul) api.Foul {
	if is {
		return api.Fair
	}
	return f
}

// wantedFouls returns the fouls of the calls that have their own, but for those of spans that have nothing in common.
func wantedFouls(q question, f api.Foul) []api.Foul {
	minute := unless(isIn(q.minute, span(0, 999)), api.OffLimits)
	delays := unless(len(q.delays) == len(q.c.Groups), api.BadCount)
	for _, n := range q.delays {
		delays = orElse(delays, unless(isIn(n, span(0, 12)), api.OffLimits))
	}
	peg := unless(isIn(q.peg, span(0, len(q.c.Pegs)-1)), api.Unknown)
	point := unless(isIn(q.point, span(0, q.c.Points-1)), api.Unknown)
	narrow := orElse(f, peg)
	for _, x := range []api.Span{q.shoot, q.walk} {
		narrow = orElse(narrow, unless(0 <= x.Min && x.Min <= x.Max && x.Max <= 60, api.OffLimits))
	}
	return []api.Foul{orElse(f, minute), orElse(f, delays), narrow, orElse(f, point, minute)}
}

// P1, R1, R4: any arguments are answered, in the same way each time, and are not changed.
func TestAnyArguments(t *testing.T) {
	r := rand.New(rand.NewSource(87))
	many := make(map[api.Foul]int)
	for range 3000 {
		q := anyQuestion(r)
		old := q.copied()
		results := allCalls(q)
		for i, x := range results {
			if x.f != api.Fair && !zero(x.rest...) {
				t.Fatal("results beside a foul", q, i, x)
			}
		}
		f := field.CheckCourse(q.c)
		checkSame(t, q, f, courseCalls(q))
		checkSame(t, q, orElse(f, unless(isIn(q.group, span(0, len(q.c.Groups)-1)), api.Unknown)), groupCalls(q))
		checkSame(t, q, orElse(f, unless(isIn(q.peg, span(0, len(q.c.Pegs)-1)), api.Unknown)), pegCalls(q))
		others := otherCalls(q)
		for i, want := range wantedFouls(q, f) {
			against := i == 2 && want == api.Fair && others[i].f == api.Against
			if others[i].f != want && !against {
				t.Fatal("another foul", q, i, others[i], want)
			}
		}
		if !reflect.DeepEqual(q, old) {
			t.Fatal("an argument was changed", q, old)
		}
		if !reflect.DeepEqual(results, allCalls(q)) {
			t.Fatal("another answer to the same question", q)
		}
		many[f]++
	}
	for _, f := range []api.Foul{api.Fair, api.OffLimits, api.BadCount, api.BadName, api.Twice, api.Unknown, api.OutOfOrder, api.Circular, api.Against} {
		if many[f] == 0 {
			t.Error("no course had the foul", f)
		}
	}
}

// P1: any slant and rise are answered.
func TestAnySlant(t *testing.T) {
	r := rand.New(rand.NewSource(88))
	for range 2000 {
		slant, rise := anyNumber(r), anyNumber(r)
		want := orElse(unless(isIn(slant, span(1, 90)) && isIn(rise, span(-90, 90)), api.OffLimits), unless(isIn(rise, span(-slant, slant)), api.Against))
		if n, f := field.Level(slant, rise); f != want || f != api.Fair && n != 0 {
			t.Fatal(slant, rise, n, f)
		}
	}
}

// P1: what is very long is answered.
func TestLongArguments(t *testing.T) {
	const many = 1 << 17
	for _, x := range []struct {
		want   api.Foul
		change func(c *api.FieldCourse)
	}{
		{api.BadCount, func(c *api.FieldCourse) { c.Sizes = make([]api.Span, many) }},
		{api.BadCount, func(c *api.FieldCourse) { c.Paths = make([]api.FieldPath, many) }},
		{api.BadCount, func(c *api.FieldCourse) { c.Pegs = make([]api.FieldPeg, many) }},
		{api.BadCount, func(c *api.FieldCourse) { c.Groups = make([]api.FieldGroup, many) }},
		{api.OutOfOrder, func(c *api.FieldCourse) { c.Pegs[2].Lane = make([]int, many) }},
		{api.BadName, func(c *api.FieldCourse) { c.Pegs[2].Name = string(make([]byte, many)) }},
	} {
		q := question{c: withCourse(x.change)}
		checkSame(t, q, x.want, allCalls(q)[:15])
	}
}

// P1: any text is answered.
func TestAnyText(t *testing.T) {
	r := rand.New(rand.NewSource(89))
	some := []string{head, size, path1, peg, other, group1, whole, "course ", "size ", "path ", "peg ", "a ", "group ", " ", " ", "\n", "\n", "1", "2", "/", "0/1", "0", "-", "-1", "..", "\xff", "\x00", "999999999"}
	for range 5000 {
		text := ""
		if r.Intn(2) == 0 {
			text = whole
		}
		for range r.Intn(20) {
			text += pick(r, some)
		}
		c, n, f := field.Parse(text)
		if f != api.Fair && !sameCourse(c, api.FieldCourse{}) || f != api.BadForm && n != 0 {
			t.Fatalf("%q: %v %d %d", text, c, n, f)
		}
		if f == api.Fair && field.CheckCourse(c) != api.Fair {
			t.Fatalf("%q: %v", text, c)
		}
	}
}

// emptied returns a question whose lists are empty, but not nil, where those of another one are nil.
func emptied(q question) question {
	o := q.copied()
	o.c.Sizes, o.c.Paths = append([]api.Span{}, o.c.Sizes...), append([]api.FieldPath{}, o.c.Paths...)
	o.c.Pegs, o.c.Groups = append([]api.FieldPeg{}, o.c.Pegs...), append([]api.FieldGroup{}, o.c.Groups...)
	for i, p := range o.c.Pegs {
		o.c.Pegs[i].Lane = append([]int{}, p.Lane...)
	}
	o.delays = append([]int{}, o.delays...)
	return o
}

// sameRest compares results; nil and empty lists are the same, in pegs too.
func sameRest(a, b any) bool {
	x, pegs := a.([]api.FieldPeg)
	if pegs {
		return slices.EqualFunc(x, b.([]api.FieldPeg), samePeg)
	}
	return zero(a) && zero(b) || reflect.DeepEqual(a, b)
}

// R3: nil and an empty slice are the same.
func TestNilAndEmpty(t *testing.T) {
	r := rand.New(rand.NewSource(90))
	for range 500 {
		q := anyQuestion(r)
		if r.Intn(3) == 0 {
			q.c.Groups, q.delays = nil, nil
		}
		x, y := allCalls(q), allCalls(emptied(q))
		for i := range x {
			if x[i].f != y[i].f || !slices.EqualFunc(x[i].rest, y[i].rest, sameRest) {
				t.Fatal(q, i, x[i], y[i])
			}
		}
	}
}

// scribble changes all that slices of a course hold.
func scribble(c api.FieldCourse) {
	for i := range c.Sizes {
		c.Sizes[i] = only(77)
	}
	for i := range c.Paths {
		c.Paths[i] = path(7, 7, 7)
	}
	for i, p := range c.Pegs {
		for k := range p.Lane {
			p.Lane[k] = 70 + i
		}
		_ = append(p.Lane, 78)
		c.Pegs[i].Name = "x"
	}
	for i := range c.Groups {
		c.Groups[i].Name = "x"
	}
}

// R4: answers share no memory with arguments, nor with each other, nor do two lists of one.
func TestResultsShareNothing(t *testing.T) {
	c, delays := exampleCourse(), list(0, 1)
	for range 2 {
		for _, o := range []api.FieldCourse{delayed(t, c, delays), narrowed(t, c, 0, span(5, 9), span(0, 60)), narrowed(t, c, 1, span(0, 60), span(0, 60))} {
			scribble(o)
			if !slices.Equal(o.Pegs[0].Lane, list(70)) || !slices.Equal(o.Pegs[1].Lane, list(71)) {
				t.Fatal("two lanes share memory", o)
			}
		}
		if o, _, f := field.Parse(exampleText); f == api.Fair {
			scribble(o)
		}
		if !sameCourse(c, exampleCourse()) || !slices.Equal(delays, list(0, 1)) {
			t.Fatal("an argument was changed", c, delays)
		}
		x := rescueOf(t, c, 2, 30)
		l, _ := delaysOf(t, c)
		m, v, s := marshalsOf(t, c), visitsOf(t, c, 0), shotOf(t, c, 8)
		if !slices.Equal(x.points, list(2, 1, 0)) || !slices.Equal(l, list(0, 0)) || !slices.Equal(m, list(0, 2)) || v[1].Peg != 1 || s[2] != yes {
			t.Fatal(x, l, m, v, s)
		}
		x.points[1], l[0], m[0], v[1].Peg, s[2] = 7, 7, 7, 7, maybe
	}
}
