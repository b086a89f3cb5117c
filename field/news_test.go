package field_test

import (
	"math/rand"
	"slices"
	"testing"

	"nock/api"
)

// randomPart returns a span of numbers of another one.
func randomPart(r *rand.Rand, x api.Span) api.Span {
	least := x.Min + r.Intn(x.Max-x.Min+1)
	return span(least, least+r.Intn(x.Max-least+1))
}

// randomNews returns a course in which the times of some pegs are narrower.
func randomNews(t *testing.T, r *rand.Rand, c api.FieldCourse) api.FieldCourse {
	t.Helper()
	for range 1 + r.Intn(3) {
		i := r.Intn(len(c.Pegs))
		shoot, walk := randomPart(r, c.Pegs[i].Shoot), randomPart(r, c.Pegs[i].Walk)
		if r.Intn(2) == 0 {
			shoot.Max = min(60, shoot.Max+r.Intn(9))
			walk.Min = max(0, walk.Min-r.Intn(9))
		}
		c = narrowed(t, c, i, shoot, walk)
	}
	return c
}

// keeps says whether what was certain before is so after.
func keeps(before, after api.Sure) bool { return before == maybe || before == after }

func keepsAll(before, after []api.Sure) bool { return slices.EqualFunc(before, after, keeps) }

// checkNarrower looks whether nothing is wider, and nothing that was certain is not, with narrower times.
func checkNarrower(t *testing.T, c, o api.FieldCourse) {
	t.Helper()
	for group := range c.Groups {
		before, after := visitsOf(t, c, group), visitsOf(t, o, group)
		for i, v := range before {
			if v.Peg != after[i].Peg || !isPartOf(after[i].Come, v.Come) || !isPartOf(after[i].Go, v.Go) {
				t.Fatal(c, o, group, v, after[i])
			}
		}
		if !isPartOf(endsOf(t, o, group), endsOf(t, c, group)) || !keeps(inTime(t, c, group), inTime(t, o, group)) {
			t.Fatal(c, o, group)
		}
	}
	for minute := range 50 {
		if before, after := shotOf(t, c, minute), shotOf(t, o, minute); !keepsAll(before, after) {
			t.Fatal(c, o, minute, before, after)
		}
	}
}

// P7.8, P3: narrower times never add a trouble, nor make a span wider; what is certain stays so.
func TestNarrowerTimes(t *testing.T) {
	r := rand.New(rand.NewSource(81))
	fewer, surer, safer := 0, 0, 0
	for i := range 1500 {
		c := randomCourse(r, middle)
		if i%2 == 0 {
			c = likelyCourse(r, middle)
		}
		o := randomNews(t, r, c)
		checkNarrower(t, c, o)
		before, after := troublesOf(t, c), troublesOf(t, o)
		for _, x := range after {
			at := slices.IndexFunc(before, func(y api.FieldTrouble) bool { return x.One == y.One && x.Two == y.Two && x.Peg == y.Peg })
			if at < 0 || x.From < before[at].From || !keeps(before[at].Meet, x.Meet) {
				t.Fatal("a trouble is new", c, o, x)
			}
			if x.Meet != before[at].Meet {
				surer++
			}
		}
		for _, x := range before {
			gone := !slices.ContainsFunc(after, func(y api.FieldTrouble) bool { return x.One == y.One && x.Two == y.Two && x.Peg == y.Peg })
			if gone && x.Meet == yes {
				t.Fatal("a trouble that was sure is gone", c, o, x)
			}
			if gone {
				fewer++
			}
		}
		was, is := isSafe(t, c), isSafe(t, o)
		if was && !is {
			t.Fatal("not safe any more", c, o)
		}
		if is && !was {
			safer++
		}
	}
	if fewer < 50 || surer < 20 || safer < 10 {
		t.Error("too few are news", fewer, surer, safer)
	}
}

// P7.8, P3: with narrower times the way of rescue is never longer, and no more delays are needed.
func TestNarrowerTimesAreNoWorse(t *testing.T) {
	r := rand.New(rand.NewSource(82))
	shorter, less := 0, 0
	for range 1000 {
		c := waitingCourse(r)
		o := randomNews(t, r, c)
		for range 10 {
			point, minute := r.Intn(c.Points), r.Intn(30)
			before, after := rescueOf(t, c, point, minute), rescueOf(t, o, point, minute)
			if before.found && (!after.found || after.long > before.long) {
				t.Fatal(c, o, point, minute, before, after)
			}
			if after.found && (!before.found || after.long < before.long) {
				shorter++
			}
		}
		was, found := delaysOf(t, c)
		is, still := delaysOf(t, o)
		if found && (!still || sum(is) > sum(was)) {
			t.Fatal(c, o, was, is)
		}
		if still && (!found || sum(is) < sum(was)) {
			less++
		}
	}
	if shorter < 20 || less < 30 {
		t.Error("too few are news", shorter, less)
	}
}

// later returns a span that is so much later.
func later(x api.Span, by int) api.Span { return span(x.Min+by, x.Max+by) }

// P7.7: if all groups start later by as much, all is the same, as much later.
func TestAllLater(t *testing.T) {
	r := rand.New(rand.NewSource(83))
	many := 0
	for range 400 {
		c := randomCourse(r, middle)
		by := 12
		for i := range c.Groups {
			c.Groups[i].Delay = r.Intn(8)
			by = min(by, 12-c.Groups[i].Delay)
		}
		o := copyCourse(c)
		for i := range o.Groups {
			o.Groups[i].Delay += by
		}
		want := slices.Clone(troublesOf(t, c))
		for i := range want {
			want[i].From += by
		}
		if l := troublesOf(t, o); !slices.Equal(l, want) {
			t.Fatal(c, by, l, want)
		}
		many += len(want)
		for group := range c.Groups {
			if endsOf(t, o, group) != later(endsOf(t, c, group), by) {
				t.Fatal(c, by, group)
			}
			after := visitsOf(t, o, group)
			for i, v := range visitsOf(t, c, group) {
				if after[i] != (api.FieldVisit{Peg: v.Peg, Come: later(v.Come, by), Go: later(v.Go, by)}) {
					t.Fatal(c, by, group, v, after[i])
				}
			}
		}
		for minute := range 40 {
			if !slices.Equal(shotOf(t, c, minute), shotOf(t, o, minute+by)) {
				t.Fatal(c, by, minute)
			}
		}
		a, found := delaysOf(t, c)
		if b, also := delaysOf(t, o); also != found || !slices.Equal(a, b) {
			t.Fatal("the delays that groups have now are of no account", c, o, a, b)
		}
	}
	if many < 300 {
		t.Error("too few troubles", many)
	}
}

// P7.8, P5: the order of groups changes no more than their indexes.
func TestGroupsInAnyOrder(t *testing.T) {
	r := rand.New(rand.NewSource(84))
	for range 300 {
		c := waitingCourse(r)
		from := r.Perm(len(c.Groups))
		o := copyCourse(c)
		index := make(map[int]int)
		for i, old := range from {
			o.Groups[i], index[old] = c.Groups[old], i
		}
		for i, old := range from {
			if !slices.Equal(visitsOf(t, o, i), visitsOf(t, c, old)) || endsOf(t, o, i) != endsOf(t, c, old) || inTime(t, o, i) != inTime(t, c, old) {
				t.Fatal(c, o, i)
			}
		}
		want := slices.Clone(troublesOf(t, c))
		for i, x := range want {
			want[i].One, want[i].Two = min(index[x.One], index[x.Two]), max(index[x.One], index[x.Two])
		}
		slices.SortFunc(want, compareTroubles)
		if l := troublesOf(t, o); !slices.Equal(l, want) {
			t.Fatal(c, o, l, want)
		}
		a, found := delaysOf(t, c)
		b, also := delaysOf(t, o)
		if isSafe(t, c) != isSafe(t, o) || found != also || sum(a) != sum(b) {
			t.Fatal(c, o, a, b)
		}
		minute := r.Intn(40)
		if !slices.Equal(shotOf(t, c, minute), shotOf(t, o, minute)) {
			t.Fatal(c, o, minute)
		}
		for point := range c.Points {
			if !rescueOf(t, c, point, minute).same(rescueOf(t, o, point, minute)) {
				t.Fatal(c, o, point, minute)
			}
		}
	}
}

// P5: the order of paths, and of their ends, changes no way, and no marshals.
func TestPathsInAnyOrder(t *testing.T) {
	r := rand.New(rand.NewSource(85))
	for range 400 {
		c := randomCourse(r, middle)
		o := copyCourse(c)
		index := make(map[int]int)
		for i, old := range r.Perm(len(c.Paths)) {
			p := c.Paths[old]
			if r.Intn(2) == 0 {
				p.One, p.Two = p.Two, p.One
			}
			o.Paths[i], index[old] = p, i
		}
		for i, p := range c.Pegs {
			for k, old := range p.Lane {
				o.Pegs[i].Lane[k] = index[old]
			}
			slices.Sort(o.Pegs[i].Lane)
		}
		if !slices.Equal(marshalsOf(t, c), marshalsOf(t, o)) {
			t.Fatal(c, o)
		}
		for minute := range 20 {
			for point := range c.Points {
				if !rescueOf(t, c, point, minute).same(rescueOf(t, o, point, minute)) {
					t.Fatal(c, o, point, minute)
				}
			}
		}
	}
}
