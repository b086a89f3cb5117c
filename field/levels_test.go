package field_test

import (
	"math"
	"math/rand"
	"slices"
	"testing"

	"nock/api"
	"nock/field"
)

// P7.1: the examples of the chapter, and others.
func TestLevelExamples(t *testing.T) {
	for _, x := range []struct{ slant, rise, want int }{
		{13, 5, 12}, {13, -5, 12}, {20, 11, 16}, {20, 12, 16}, {20, 13, 15}, {25, 7, 24}, {5, 5, 0}, {5, -5, 0}, {5, 0, 5}, {1, 0, 1}, {1, 1, 0}, {2, 1, 1}, {90, 1, 89}, {90, 0, 90}, {90, 90, 0}, {90, -90, 0}, {90, 89, 13},
	} {
		if n, f := field.Level(x.slant, x.rise); n != x.want || f != api.Fair {
			t.Error(x, n, f)
		}
	}
}

// P7.1: all slants and rises that have a level distance.
func TestLevels(t *testing.T) {
	for slant := 1; slant <= 90; slant++ {
		for rise := -slant; rise <= slant; rise++ {
			if n, f := field.Level(slant, rise); n != wantedLevel(slant, rise) || f != api.Fair {
				t.Fatal(slant, rise, n, f)
			}
		}
	}
}

// P7.1: fouls of a slant and a rise.
func TestLevelFouls(t *testing.T) {
	for _, x := range []struct {
		slant, rise int
		want        api.Foul
	}{
		{0, 0, api.OffLimits}, {-1, 0, api.OffLimits}, {91, 0, api.OffLimits}, {math.MinInt, 0, api.OffLimits}, {math.MaxInt, 0, api.OffLimits}, {5, 91, api.OffLimits}, {5, -91, api.OffLimits}, {90, 91, api.OffLimits}, {90, -91, api.OffLimits}, {5, math.MinInt, api.OffLimits}, {5, math.MaxInt, api.OffLimits}, {0, 91, api.OffLimits}, {0, 5, api.OffLimits}, {91, -91, api.OffLimits}, {-5, -5, api.OffLimits},
		{5, 6, api.Against}, {5, -6, api.Against}, {1, 90, api.Against}, {1, -90, api.Against}, {89, 90, api.Against}, {1, 2, api.Against},
	} {
		if n, f := field.Level(x.slant, x.rise); n != 0 || f != x.want {
			t.Error(x, n, f)
		}
	}
}

// P7.9: a greater slant never makes the level distance less, a greater rise or fall never greater.
func TestGreaterSlantsAndRises(t *testing.T) {
	level := func(slant, rise int) int {
		n, f := field.Level(slant, rise)
		fair(t, f)
		return n
	}
	for slant := 1; slant <= 90; slant++ {
		for rise := range slant + 1 {
			n := level(slant, rise)
			if level(slant, -rise) != n {
				t.Fatal("a fall is not as a rise", slant, rise)
			}
			if slant < 90 && level(slant+1, rise) < n {
				t.Fatal("a greater slant", slant, rise)
			}
			if rise > 0 && (level(slant, rise-1) < n || level(slant, 1-rise) < n) {
				t.Fatal("a greater rise", slant, rise)
			}
		}
	}
}

// P7.1: the examples of the chapter, and others.
func TestDistanceExamples(t *testing.T) {
	for i, x := range []struct {
		change func(c *api.FieldCourse)
		peg    int
		want   api.Span
		is     api.Sure
	}{
		{func(c *api.FieldCourse) {}, 0, span(16, 20), maybe},
		{func(c *api.FieldCourse) {}, 1, only(12), yes},
		{func(c *api.FieldCourse) {}, 2, span(24, 25), no},
		{func(c *api.FieldCourse) { c.Pegs[0].Rise = span(-12, 0) }, 0, span(16, 20), maybe},
		{func(c *api.FieldCourse) { c.Pegs[0].Rise = span(-12, 3) }, 0, span(16, 20), maybe},
		{func(c *api.FieldCourse) { c.Pegs[0].Rise = span(-3, 12) }, 0, span(16, 20), maybe},
		{func(c *api.FieldCourse) { c.Pegs[0].Rise = span(-12, -9) }, 0, span(16, 17), yes},
		{func(c *api.FieldCourse) { c.Pegs[0].Rise = span(9, 12) }, 0, span(16, 17), yes},
		{func(c *api.FieldCourse) { c.Pegs[0].Slant = span(20, 23) }, 0, span(16, 23), maybe},
		{func(c *api.FieldCourse) { c.Pegs[0].Slant, c.Pegs[0].Rise = span(12, 90), span(-12, 0) }, 0, span(0, 90), maybe},
		{func(c *api.FieldCourse) { c.Sizes[1] = only(20) }, 0, span(16, 20), maybe},
		{func(c *api.FieldCourse) { c.Sizes[1] = only(16) }, 0, span(16, 20), maybe},
		{func(c *api.FieldCourse) { c.Sizes[1] = span(16, 20) }, 0, span(16, 20), yes},
		{func(c *api.FieldCourse) { c.Sizes[1] = span(16, 19) }, 0, span(16, 20), maybe},
		{func(c *api.FieldCourse) { c.Sizes[1] = span(17, 20) }, 0, span(16, 20), maybe},
		{func(c *api.FieldCourse) { c.Sizes[1] = span(21, 90) }, 0, span(16, 20), no},
		{func(c *api.FieldCourse) { c.Sizes[1] = span(0, 15) }, 0, span(16, 20), no},
		{func(c *api.FieldCourse) { c.Sizes[0] = span(16, 20) }, 0, span(16, 20), maybe},
		{func(c *api.FieldCourse) { c.Pegs[0].Size = 0 }, 0, span(16, 20), no},
	} {
		c := withCourse(x.change)
		if d, f := field.Distance(c, x.peg); d != x.want || f != api.Fair {
			t.Error(i, d, f)
		}
		if s, f := field.Allowed(c, x.peg); s != x.is || f != api.Fair {
			t.Error(i, s, f)
		}
	}
}

// P7.1, P2: numbers between two level distances need not be ones themselves.
func TestGapsBetweenLevels(t *testing.T) {
	c := withCourse(func(c *api.FieldCourse) { c.Pegs[0].Slant, c.Pegs[0].Rise = only(90), span(88, 90) })
	for size, want := range map[api.Span]api.Sure{span(1, 12): no, only(5): no, span(14, 17): no, span(0, 12): maybe, span(1, 13): maybe, only(13): maybe, span(13, 18): maybe, span(0, 18): yes, span(19, 90): no, only(0): maybe} {
		c.Sizes[1] = size
		if d, f := field.Distance(c, 0); d != span(0, 18) || f != api.Fair {
			t.Error(d, f)
		}
		if s, f := field.Allowed(c, 0); s != want || f != api.Fair {
			t.Error(size, s, f)
		}
	}
}

// P7.1, P2: Distance and Allowed of random pegs are those of all truths.
func TestDistances(t *testing.T) {
	r := rand.New(rand.NewSource(71))
	many := make(map[api.Sure]int)
	for range 300 {
		c := randomCourse(r, small)
		for i, p := range c.Pegs {
			all := wantedLevels(p)
			if r.Intn(2) == 0 {
				c.Sizes[p.Size] = span(max(0, slices.Min(all)-r.Intn(2)), min(90, slices.Max(all)+r.Intn(3)-1))
				if c.Sizes[p.Size].Min > c.Sizes[p.Size].Max {
					c.Sizes[p.Size] = only(slices.Min(all))
				}
			}
			if d, f := field.Distance(c, i); d != spanOf(all, func(n int) int { return n }) || f != api.Fair {
				t.Fatal(c, i, d, f)
			}
			s, f := field.Allowed(c, i)
			if s != sureOf(all, func(n int) bool { return isIn(n, c.Sizes[p.Size]) }) || f != api.Fair {
				t.Fatal(c, i, s, f)
			}
			many[s]++
		}
	}
	if many[yes] < 30 || many[no] < 30 || many[maybe] < 30 {
		t.Error("too few of a kind", many)
	}
}

// P7.1: a peg that there is not, after the fouls of the course.
func TestUnknownPegs(t *testing.T) {
	bad := withCourse(func(c *api.FieldCourse) { c.Groups[1].Delay = 13 })
	for _, peg := range list(-1, 3, 4, math.MinInt, math.MaxInt) {
		if d, f := field.Distance(exampleCourse(), peg); d != span(0, 0) || f != api.Unknown {
			t.Error(peg, d, f)
		}
		if s, f := field.Allowed(exampleCourse(), peg); s != maybe || f != api.Unknown {
			t.Error(peg, s, f)
		}
		if d, f := field.Distance(bad, peg); d != span(0, 0) || f != api.OffLimits {
			t.Error(peg, d, f)
		}
		if s, f := field.Allowed(bad, peg); s != maybe || f != api.OffLimits {
			t.Error(peg, s, f)
		}
	}
}
