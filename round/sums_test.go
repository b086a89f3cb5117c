package round_test

import (
	"math"
	"math/rand"
	"slices"
	"testing"

	"nock/api"
	"nock/round"
)

// P4.1: how many arrows a round has.
func TestArrows(t *testing.T) {
	for i, x := range []struct {
		r    api.Round
		want int
		f    api.Foul
	}{
		{example(), 7, api.Fair},
		{short(1, 1), 1, api.Fair},
		{great(), 60, api.Fair},
		{api.Round{}, 0, api.BadCount},
		{short(7, 1), 0, api.OffLimits},
		{with(func(r *api.Round) { r.Archers[eve].Name = "ann" }), 0, api.Twice},
	} {
		if n, f := round.Arrows(x.r); n != x.want || f != x.f {
			t.Error(i, n, f)
		}
	}
}

// P4.1: the leg, the end and the arrow that an arrow is, and the fouls.
func TestPlace(t *testing.T) {
	for i, x := range []struct {
		r    api.Round
		n    int
		want [3]int
		f    api.Foul
	}{
		{example(), 0, [3]int{0, 0, 0}, api.Fair},
		{example(), 1, [3]int{0, 0, 1}, api.Fair},
		{example(), 2, [3]int{0, 0, 2}, api.Fair},
		{example(), 3, [3]int{1, 0, 0}, api.Fair},
		{example(), 4, [3]int{1, 0, 1}, api.Fair},
		{example(), 5, [3]int{1, 1, 0}, api.Fair},
		{example(), 6, [3]int{1, 1, 1}, api.Fair},
		{example(), 7, [3]int{}, api.OffLimits},
		{example(), -1, [3]int{}, api.OffLimits},
		{example(), math.MaxInt, [3]int{}, api.OffLimits},
		{example(), math.MinInt, [3]int{}, api.OffLimits},
		{great(), 59, [3]int{3, 2, 4}, api.Fair},
		{great(), 60, [3]int{}, api.OffLimits},
		{api.Round{}, 0, [3]int{}, api.BadCount},
		{api.Round{}, -1, [3]int{}, api.BadCount},
	} {
		if leg, end, arrow, f := round.Place(x.r, x.n); [3]int{leg, end, arrow} != x.want || f != x.f {
			t.Error(i, leg, end, arrow, f)
		}
	}
}

// P4.1: the places of all arrows are those of the legs and their ends, in their order.
func TestAllPlaces(t *testing.T) {
	for _, r := range []api.Round{example(), great(), short(6, 1)} {
		n := 0
		for i, x := range r.Legs {
			for end := range x.Ends {
				for arrow := range x.Arrows {
					if a, b, c, f := round.Place(r, n); a != i || b != end || c != arrow || f != api.Fair {
						t.Error(n, a, b, c, f)
					}
					n++
				}
			}
		}
		if many, f := round.Arrows(r); many != n || f != api.Fair {
			t.Error(many, n, f)
		}
	}
}

// P4.1: the sum of the first arrows, and the fouls.
func TestSum(t *testing.T) {
	for i, x := range []struct {
		archer, n int
		want      api.RoundSum
		f         api.Foul
	}{
		{ann, 0, sum(0, 0, 0, 0), api.Fair},
		{ann, 1, sum(1, 10, 1, 0), api.Fair},
		{ann, 3, sum(3, 29, 2, 1), api.Fair},
		{ann, 5, sum(5, 47, 3, 1), api.Fair},
		{ann, 7, sum(5, 47, 3, 1), api.Fair},
		{ben, 2, sum(2, 20, 2, 2), api.Fair},
		{ben, 3, sum(3, 27, 2, 2), api.Fair},
		{eve, 7, sum(7, 63, 0, 0), api.Fair},
		{dot, 7, sum(1, 10, 1, 0), api.Fair},
		{ann, 8, sum(0, 0, 0, 0), api.OffLimits},
		{ann, -1, sum(0, 0, 0, 0), api.OffLimits},
		{ann, math.MaxInt, sum(0, 0, 0, 0), api.OffLimits},
		{5, 0, sum(0, 0, 0, 0), api.Unknown},
		{-1, -1, sum(0, 0, 0, 0), api.Unknown},
		{math.MaxInt, 8, sum(0, 0, 0, 0), api.Unknown},
	} {
		if s, f := round.Sum(example(), x.archer, x.n); s != x.want || f != x.f {
			t.Error(i, s, f)
		}
	}
	if s, f := round.Sum(with(func(r *api.Round) { r.Legs[1].Best = 9 }), -1, -1); s != sum(0, 0, 0, 0) || f != api.OffLimits {
		t.Error(s, f)
	}
}

// P4.1: what each number counts.
func TestSumOfNumbers(t *testing.T) {
	for number := range 12 {
		want := map[int]api.RoundSum{10: sum(1, 10, 1, 0), 11: sum(1, 10, 1, 1)}
		if number < 10 {
			want[number] = sum(1, number, 0, 0)
		}
		if s, f := round.Sum(short(1, 11, list(number)), 0, 1); s != want[number] || f != api.Fair {
			t.Error(number, s, f)
		}
	}
}

// P4.1: the sum of each leg, and the best sum.
func TestLegSumsAndBest(t *testing.T) {
	nothing := sum(0, 0, 0, 0)
	full := great()
	full.Archers[5].Arrows = slices.Repeat(list(11), 60)
	for i, x := range []struct {
		r      api.Round
		archer int
		legs   []api.RoundSum
		best   api.RoundSum
		f      api.Foul
	}{
		{example(), ann, []api.RoundSum{sum(3, 29, 2, 1), sum(2, 18, 1, 0)}, sum(7, 67, 5, 1), api.Fair},
		{example(), ben, []api.RoundSum{sum(3, 27, 2, 2), sum(1, 9, 0, 0)}, sum(7, 66, 5, 2), api.Fair},
		{example(), cam, []api.RoundSum{sum(3, 27, 0, 0), sum(4, 36, 0, 0)}, sum(7, 63, 0, 0), api.Fair},
		{example(), dot, []api.RoundSum{sum(1, 10, 1, 0), nothing}, sum(7, 70, 7, 2), api.Fair},
		{with(func(r *api.Round) { r.Archers[ben].Out = true }), ben, []api.RoundSum{sum(3, 27, 2, 2), sum(1, 9, 0, 0)}, sum(4, 36, 2, 2), api.Fair},
		{with(func(r *api.Round) { r.Archers[dot] = archer("dot") }), dot, []api.RoundSum{nothing, nothing}, sum(7, 70, 7, 3), api.Fair},
		{with(func(r *api.Round) { r.Archers[dot] = api.RoundArcher{Name: "dot", Out: true} }), dot, []api.RoundSum{nothing, nothing}, nothing, api.Fair},
		{short(3, 9, list(8)), 0, []api.RoundSum{sum(1, 8, 0, 0)}, sum(3, 26, 0, 0), api.Fair},
		{short(3, 1, nil), 0, []api.RoundSum{nothing}, sum(3, 3, 0, 0), api.Fair},
		{short(3, 10, list(0, 0)), 0, []api.RoundSum{sum(2, 0, 0, 0)}, sum(3, 10, 1, 0), api.Fair},
		{great(), 0, []api.RoundSum{nothing, nothing, nothing, nothing}, sum(60, 600, 60, 60), api.Fair},
		{full, 5, slices.Repeat([]api.RoundSum{sum(15, 150, 15, 15)}, 4), sum(60, 600, 60, 60), api.Fair},
		{example(), 5, nil, nothing, api.Unknown},
		{example(), -1, nil, nothing, api.Unknown},
		{short(1, 1), 0, nil, nothing, api.Unknown},
		{short(1, 0), 0, nil, nothing, api.OffLimits},
		{api.Round{}, 0, nil, nothing, api.BadCount},
	} {
		if l, f := round.LegSums(x.r, x.archer); !slices.Equal(l, x.legs) || f != x.f {
			t.Error(i, l, f)
		}
		if s, f := round.Best(x.r, x.archer); s != x.best || f != x.f {
			t.Error(i, s, f)
		}
	}
}

// P4.1, P4.6, P2: sums are those of the arrows one by one, and the best one is that of some truth, and no other truth has a better one.
func TestSumsOfTruths(t *testing.T) {
	r := rand.New(rand.NewSource(11))
	for range 1500 {
		o := randomRound(r, 6, 4)
		for i, a := range o.Archers {
			for n := range len(bests(o)) + 1 {
				if s, f := round.Sum(o, i, n); s != sumOf(a.Arrows[:min(n, len(a.Arrows))]) || f != api.Fair {
					t.Fatal(o, i, n, s, f)
				}
			}
			legs, f := round.LegSums(o, i)
			fair(t, f)
			left := a.Arrows
			for j, x := range o.Legs {
				many := min(x.Ends*x.Arrows, len(left))
				if legs[j] != sumOf(left[:many]) || len(legs) != len(o.Legs) {
					t.Fatal(o, i, legs)
				}
				left = left[many:]
			}
			want := sumOf(a.Arrows)
			for _, truth := range possible(o, i) {
				if s := sumOf(truth.Arrows); slices.Compare(sumList(s), sumList(want)) >= 0 {
					want = s
				}
			}
			if s, f := round.Best(o, i); s != want || f != api.Fair {
				t.Fatal(o, i, s, want, f)
			}
		}
	}
}
