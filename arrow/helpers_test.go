package arrow_test

import (
	"math/rand"
	"slices"
	"strings"
	"testing"

	"nock/api"
	"nock/arrow"
)

func to(least, most int) api.Span { return api.Span{Min: least, Max: most} }

func one(n int) api.Span { return to(n, n) }

// exampleStock is the stock S of the chapter.
func exampleStock() api.ArrowStock {
	return api.ArrowStock{
		Rule: api.ArrowRule{Spine: 10, Length: 2, Weight: 5, Many: 3},
		Shafts: []api.ArrowShaft{
			{Name: "a", Spine: to(400, 405), Length: one(700), Weight: to(250, 252)},
			{Name: "b", Spine: to(404, 408), Length: one(701), Weight: one(251)},
			{Name: "c", Spine: to(398, 402), Length: to(700, 701), Weight: to(249, 250)},
			{Name: "d", Spine: to(409, 412), Length: one(700), Weight: one(255)},
			{Name: "e", Spine: one(402), Length: one(702), Weight: to(252, 254)},
			{Name: "f", Spine: to(405, 406), Length: to(701, 702), Weight: one(253)},
			{Name: "g", Spine: one(450), Length: one(700), Weight: one(250)},
		},
	}
}

// exampleCard is the sight card V of the chapter.
func exampleCard() api.SightCard {
	return api.SightCard{
		Rule: api.SightRule{Least: 2, Most: 4, Wind: 1, Light: 2},
		Shots: []api.SightShot{
			{At: 10, Mark: to(30, 32)},
			{At: 20, Mark: to(55, 60)},
			{At: 30, Mark: to(96, 99), Wind: 1, Light: 1},
		},
	}
}

func withShots(c api.SightCard, more ...api.SightShot) api.SightCard {
	c.Shots = slices.Concat(c.Shots, more)
	return c
}

func copyStock(s api.ArrowStock) api.ArrowStock {
	s.Shafts = slices.Clone(s.Shafts)
	return s
}

func copyCard(c api.SightCard) api.SightCard {
	c.Shots = slices.Clone(c.Shots)
	return c
}

func sameStock(a, b api.ArrowStock) bool {
	return a.Rule == b.Rule && slices.Equal(a.Shafts, b.Shafts)
}

func sameCard(a, b api.SightCard) bool {
	return a.Rule == b.Rule && slices.Equal(a.Shots, b.Shots)
}

func sameLists(a, b [][]int) bool {
	return slices.EqualFunc(a, b, slices.Equal[[]int])
}

// subsets returns all lists of the numbers below n.
func subsets(n int) [][]int {
	var all [][]int
	for bits := range 1 << n {
		var list []int
		for i := range n {
			if bits>>i&1 == 1 {
				list = append(list, i)
			}
		}
		all = append(all, list)
	}
	return all
}

// least returns the least of some lists, none if there is none.
func least(lists [][]int) []int {
	if len(lists) == 0 {
		return nil
	}
	return slices.MinFunc(lists, slices.Compare[[]int])
}

func randomSpan(r *rand.Rand, start, size int) api.Span {
	from := r.Intn(start + 1)
	return to(from, from+r.Intn(size+1))
}

// randomStock returns a stock of n shafts whose spans have few numbers, not far from each other.
func randomStock(r *rand.Rand, n int) api.ArrowStock {
	s := api.ArrowStock{Rule: api.ArrowRule{Spine: r.Intn(5), Length: 1 + r.Intn(4), Weight: 2 + r.Intn(4), Many: 2 + r.Intn(3)}}
	for i := range n {
		s.Shafts = append(s.Shafts, api.ArrowShaft{
			Name:   string(rune('a' + i)),
			Spine:  randomSpan(r, 3, 1),
			Length: randomSpan(r, 3, 1),
			Weight: randomSpan(r, 3, 1),
		})
	}
	return s
}

// randomCard returns a card of n shots that fit often, though not always.
func randomCard(r *rand.Rand, n int) api.SightCard {
	slope := r.Intn(3)
	c := api.SightCard{Rule: api.SightRule{Least: slope, Most: slope + r.Intn(3), Wind: r.Intn(3), Light: r.Intn(3)}}
	for range n {
		at := r.Intn(api.MaxSightFar + 1)
		if r.Intn(3) == 0 {
			at = 20 + r.Intn(5)
		}
		mark := 5 + at*slope + r.Intn(1+at*(c.Rule.Most-slope)/2) + r.Intn(6)
		c.Shots = append(c.Shots, api.SightShot{At: at, Mark: to(mark, mark+r.Intn(9)), Wind: r.Intn(3), Light: r.Intn(3)})
	}
	return c
}

// fair stops a test if there is a foul.
func fair(t *testing.T, f api.Foul) {
	t.Helper()
	if f != api.Fair {
		t.Fatal("foul", f)
	}
}

func fill(t *testing.T, s api.ArrowStock) [][]int {
	t.Helper()
	sets, _, f := arrow.Fill(s)
	fair(t, f)
	return sets
}

func match(t *testing.T, s api.ArrowStock, list ...int) api.Sure {
	t.Helper()
	sure, f := arrow.Match(s, list)
	fair(t, f)
	return sure
}

func fits(t *testing.T, c api.SightCard) bool {
	t.Helper()
	is, f := arrow.Fits(c)
	fair(t, f)
	return is
}

func markAt(t *testing.T, c api.SightCard, at int) api.Span {
	t.Helper()
	x, f := arrow.MarkAt(c, at)
	fair(t, f)
	return x
}

func lines(l ...string) string { return strings.Join(l, "\n") + "\n" }
