package round_test

import (
	"math"
	"math/rand"
	"slices"
	"testing"

	"nock/api"
	"nock/round"
)

// P4.3: who is among the first ones, and the fouls.
func TestAmong(t *testing.T) {
	inner := short(1, 11, list(10), nil)
	for i, x := range []struct {
		r         api.Round
		archer, k int
		want      api.Sure
		f         api.Foul
	}{
		{example(), ann, 1, api.Maybe, api.Fair},
		{example(), ann, 3, api.Maybe, api.Fair},
		{example(), ann, 4, api.Yes, api.Fair},
		{example(), ann, 6, api.Yes, api.Fair},
		{example(), ben, 2, api.Maybe, api.Fair},
		{example(), cam, 1, api.No, api.Fair},
		{example(), cam, 2, api.Maybe, api.Fair},
		{example(), eve, 1, api.Maybe, api.Fair},
		{example(), eve, 2, api.Maybe, api.Fair},
		{example(), eve, 3, api.Yes, api.Fair},
		{example(), dot, 1, api.Yes, api.Fair},
		// The same sum as the best one, and one that a ten, an inner or a point parts.
		{inner, 0, 1, api.Maybe, api.Fair},
		{short(1, 10, list(10), nil), 0, 1, api.Yes, api.Fair},
		{short(1, 11, list(11), nil), 0, 1, api.Yes, api.Fair},
		{short(2, 10, list(10, 9), list(9)), 0, 1, api.Yes, api.Fair},
		{short(2, 10, list(9, 9), list(8)), 0, 1, api.Maybe, api.Fair},
		{short(2, 9, list(9, 9), list(9)), 0, 1, api.Yes, api.Fair},
		{short(2, 10, list(9, 9), list(8)), 1, 1, api.Maybe, api.Fair},
		{short(2, 9, list(9, 9), list(8)), 1, 1, api.No, api.Fair},
		{short(2, 9, list(9, 9), list(9)), 1, 1, api.Maybe, api.Fair},
		{short(2, 10, list(9, 9), list(9, 8), nil), 1, 1, api.No, api.Fair},
		{short(2, 10, list(9, 9), list(9, 8), nil), 1, 2, api.Maybe, api.Fair},
		{short(2, 10, list(9, 9), list(9, 8), nil), 1, 3, api.Yes, api.Fair},
		{short(2, 10, list(9, 9), list(9, 8), list(8)), 1, 2, api.Maybe, api.Fair},
		{short(2, 10, list(9, 9), list(9, 8), list(6)), 1, 2, api.Yes, api.Fair},
		{example(), 5, 0, api.Maybe, api.Unknown},
		{example(), -1, 1, api.Maybe, api.Unknown},
		{example(), ann, 0, api.Maybe, api.OffLimits},
		{example(), ann, 7, api.Maybe, api.OffLimits},
		{example(), ann, math.MinInt, api.Maybe, api.OffLimits},
		{api.Round{}, 5, 0, api.Maybe, api.BadCount},
	} {
		if s, f := round.Among(x.r, x.archer, x.k); s != x.want || f != x.f {
			t.Error(i, s, f)
		}
	}
}

// P4.3: who is out is below all who are not, and shoots no more.
func TestAmongOut(t *testing.T) {
	r := short(2, 10, list(10), list(9), list(0))
	r.Archers[0].Out, r.Archers[1].Out = true, true
	for i, x := range []struct {
		archer, k int
		want      api.Sure
	}{{2, 1, api.Yes}, {0, 1, api.No}, {0, 2, api.Yes}, {1, 2, api.No}, {1, 3, api.Yes}} {
		if s := amongOf(t, r, x.archer, x.k); s != x.want {
			t.Error(i, s)
		}
	}
	for archer, want := range lists(list(2), list(0, 2), nil) {
		if l := threatsOf(t, r, archer); !slices.Equal(l, want) {
			t.Error(archer, l)
		}
	}
}

// P4.3: who can be above an archer, and the fouls.
func TestThreats(t *testing.T) {
	for i, x := range []struct {
		r      api.Round
		archer int
		want   []int
		f      api.Foul
	}{
		{example(), ann, list(ben, cam, eve), api.Fair},
		{example(), ben, list(ann, cam, eve), api.Fair},
		{example(), cam, list(ann, ben, eve), api.Fair},
		{example(), dot, nil, api.Fair},
		{example(), eve, list(ann, ben), api.Fair},
		{with(func(r *api.Round) { r.Archers[ann].Out = true }), eve, list(ben), api.Fair},
		{with(func(r *api.Round) { r.Archers[dot].Class = 0 }), eve, list(ann, ben, dot), api.Fair},
		{short(1, 10, list(10), nil), 0, nil, api.Fair},
		{short(1, 11, list(10), nil), 0, list(1), api.Fair},
		{short(1, 10, nil), 0, nil, api.Fair},
		{great(), 3, list(0, 1, 2, 4, 5), api.Fair},
		{example(), 5, nil, api.Unknown},
		{example(), -1, nil, api.Unknown},
		{api.Round{}, -1, nil, api.BadCount},
	} {
		if l, f := round.Threats(x.r, x.archer); !slices.Equal(l, x.want) || f != x.f {
			t.Error(i, l, f)
		}
	}
}

// P4.3, P4.6, P2: in every truth it is so if it surely is; if it may be there is a truth of each kind; threats are all who are above in some truth.
func TestChancesOfTruths(t *testing.T) {
	r := rand.New(rand.NewSource(21))
	seen := make(map[api.Sure]int)
	for range 700 {
		o := randomFew(r, 5, 2)
		many := len(o.Archers)
		ranks := make([]map[int]bool, many)
		threats := make([]map[int]bool, many)
		for i := range o.Archers {
			ranks[i], threats[i] = make(map[int]bool), make(map[int]bool)
		}
		for truth := range truths(o) {
			for i := range o.Archers {
				ranks[i][rankOf(truth, i)] = true
				for j := range o.Archers {
					threats[i][j] = threats[i][j] || isAbove(truth, j, i)
				}
			}
		}
		for i := range o.Archers {
			for k := 1; k <= api.MaxRoundArchers; k++ {
				is, isNot := false, false
				for rank := range ranks[i] {
					is, isNot = is || rank <= k, isNot || rank > k
				}
				s := amongOf(t, o, i, k)
				if s != sureOf(is, isNot) {
					t.Fatal(o, i, k, s)
				}
				seen[s]++
			}
			var want []int
			for j := range o.Archers {
				if threats[i][j] {
					want = append(want, j)
				}
			}
			if l := threatsOf(t, o, i); !slices.Equal(l, want) {
				t.Fatal(o, i, l, want)
			}
		}
	}
	if seen[api.Yes] < 100 || seen[api.No] < 100 || seen[api.Maybe] < 100 {
		t.Error("too few of a kind", seen)
	}
}

// P4.3, P4.6: the same of greater rounds, by all sums that are possible.
func TestAmongBySums(t *testing.T) {
	r := rand.New(rand.NewSource(22))
	seen := make(map[api.Sure]int)
	for range 600 {
		o := randomRound(r, 6, 4)
		all := possibleOfAll(o)
		for i := range o.Archers {
			k := 1 + r.Intn(len(o.Archers))
			s := amongOf(t, o, i, k)
			if want := amongBySums(all, i, k); s != want {
				t.Fatal(o, i, k, s, want)
			}
			seen[s]++
		}
	}
	if seen[api.Yes] < 100 || seen[api.No] < 100 || seen[api.Maybe] < 100 {
		t.Error("too few of a kind", seen)
	}
}

// P4.7, P3: with one more arrow what was certain stays so, and nobody who was no threat becomes one; nobody then needs more than the arrow has less.
func TestOneMoreArrow(t *testing.T) {
	r := rand.New(rand.NewSource(23))
	certain, became := 0, 0
	for range 800 {
		o := randomRound(r, 6, 4)
		for i, a := range o.Archers {
			if a.Out || len(a.Arrows) == len(bests(o)) {
				continue
			}
			more := shoot(t, o, i, r.Intn(bests(o)[len(a.Arrows)]+1))
			for j := range o.Archers {
				before, after := threatsOf(t, o, j), threatsOf(t, more, j)
				for _, threat := range after {
					if !slices.Contains(before, threat) {
						t.Fatal(o, more, j, before, after)
					}
				}
				for k := 1; k <= len(o.Archers); k++ {
					x, y := amongOf(t, o, j, k), amongOf(t, more, j, k)
					if x != api.Maybe && x != y {
						t.Fatal(o, more, j, k, x, y)
					}
					if x != api.Maybe {
						certain++
					} else if y != api.Maybe {
						became++
					}
				}
			}
		}
	}
	if certain < 1000 || became < 100 {
		t.Error("too few are certain", certain, became)
	}
}

// needed is what Needs returns.
type needed struct {
	points int
	found  bool
	f      api.Foul
}

func needs(r api.Round, archer, k int) needed {
	points, found, f := round.Needs(r, archer, k)
	return needed{points, found, f}
}

// P4.3: the points that an archer needs, and the fouls.
func TestNeeds(t *testing.T) {
	out := with(func(r *api.Round) { r.Archers[ann].Out = true })
	for i, x := range []struct {
		r         api.Round
		archer, k int
		want      needed
	}{
		{example(), ann, 1, needed{20, true, api.Fair}},
		{example(), ann, 2, needed{16, true, api.Fair}},
		{example(), ann, 4, needed{0, true, api.Fair}},
		{example(), ben, 1, needed{}},
		{example(), eve, 3, needed{0, true, api.Fair}},
		{example(), eve, 2, needed{}},
		{example(), dot, 1, needed{0, true, api.Fair}},
		// With all points there are tens, but perhaps no inners.
		{short(1, 11, list(10), nil), 1, 1, needed{10, true, api.Fair}},
		{short(1, 11, list(11), nil), 1, 1, needed{}},
		{short(1, 10, list(10), nil), 1, 1, needed{10, true, api.Fair}},
		{short(1, 9, list(9), nil), 1, 1, needed{9, true, api.Fair}},
		// 19 points of two arrows have one ten, 18 points may have none.
		{short(2, 10, list(10, 8), nil), 1, 1, needed{19, true, api.Fair}},
		{short(2, 10, list(9, 9), nil), 1, 1, needed{18, true, api.Fair}},
		{short(2, 10, list(10, 9), nil), 1, 1, needed{19, true, api.Fair}},
		{short(2, 10, list(10, 10), nil), 1, 1, needed{20, true, api.Fair}},
		{short(2, 11, list(11, 9), nil), 1, 1, needed{20, true, api.Fair}},
		{short(2, 11, list(11, 10), nil), 1, 1, needed{}},
		{short(2, 9, list(9, 9), nil), 1, 1, needed{18, true, api.Fair}},
		{short(3, 10, list(10, 10, 7), list(9)), 1, 1, needed{19, true, api.Fair}},
		{short(3, 10, list(10, 9, 8), list(9)), 1, 1, needed{19, true, api.Fair}},
		{short(3, 10, list(10, 9, 8), list(10)), 1, 1, needed{17, true, api.Fair}},
		{great(), 0, 1, needed{}},
		{great(), 0, 6, needed{0, true, api.Fair}},
		{short(1, 1, nil), 0, 1, needed{0, true, api.Fair}},
		{short(1, 1, list(1), list(1)), 0, 1, needed{0, true, api.Fair}},
		{short(1, 1, list(0), list(1)), 0, 1, needed{}},
		{out, ann, 1, needed{f: api.OutOfOrder}},
		{out, ann, 6, needed{f: api.OutOfOrder}},
		{out, ann, 7, needed{f: api.OffLimits}},
		{out, ben, 3, needed{0, true, api.Fair}},
		{example(), ann, 0, needed{f: api.OffLimits}},
		{example(), ann, 7, needed{f: api.OffLimits}},
		{example(), ann, math.MaxInt, needed{f: api.OffLimits}},
		{example(), 5, 0, needed{f: api.Unknown}},
		{example(), -1, 1, needed{f: api.Unknown}},
		{api.Round{}, -1, 0, needed{f: api.BadCount}},
	} {
		if n := needs(x.r, x.archer, x.k); n != x.want {
			t.Error(i, n)
		}
	}
}

// P4.3: faces of several kinds: only those whose best number is 10 or more have tens.
func TestNeedsOfLegs(t *testing.T) {
	r := api.Round{
		Legs:    []api.RoundLeg{leg(50, 1, 1, 11), leg(30, 1, 2, 5)},
		Archers: []api.RoundArcher{archer("a", 9, 5, 5), archer("b")},
	}
	for numbers, want := range map[[3]int]int{{9, 5, 5}: 19, {10, 5, 4}: 20, {10, 5, 5}: 20, {10, 4, 4}: 19, {8, 5, 5}: 18} {
		r.Archers[0].Arrows = numbers[:]
		if n := needs(r, 1, 1); n != (needed{want, true, api.Fair}) {
			t.Error(numbers, n)
		}
	}
	r.Archers[0].Arrows = list(11, 5, 5)
	if n := needs(r, 1, 1); n != (needed{}) {
		t.Error(n)
	}
}

// P4.3, P4.9: with the points that are needed, however they are shot, an archer is surely among the first ones; with one less there is a truth in which not.
func TestNeedsOfTruths(t *testing.T) {
	r := rand.New(rand.NewSource(24))
	some, none := 0, 0
	for range 800 {
		o := randomRound(r, 5, 3)
		all := possibleOfAll(o)
		for i, a := range o.Archers {
			if a.Out {
				continue
			}
			k := 1 + r.Intn(len(o.Archers))
			missing := make(map[int]bool) // whether the archer is surely among the first k with some points
			for _, own := range all[i] {
				points := sumOf(own.Arrows).Points - sumOf(a.Arrows).Points
				most, _ := aboveAtMost(all, i, own)
				sure, seen := missing[points]
				missing[points] = (sure || !seen) && most < k
			}
			want := needed{}
			for points := len(missing) - 1; points >= 0 && missing[points]; points-- {
				want = needed{points, true, api.Fair}
			}
			if n := needs(o, i, k); n != want {
				t.Fatal(o, i, k, n, want)
			}
			if want.points > 0 {
				some++
			} else if !want.found {
				none++
			}
		}
	}
	if some < 100 || none < 100 {
		t.Error("too few of a kind", some, none)
	}
}

// P4.9, P4.6: whatever the missing arrows are, with the points needed one is among the first ones in each truth.
func TestNeedsHoweverShot(t *testing.T) {
	r := rand.New(rand.NewSource(25))
	just := 0
	for range 1000 {
		o := randomFew(r, 4, 2)
		for i, a := range o.Archers {
			k := 1 + r.Intn(len(o.Archers))
			n := needs(o, i, k)
			if n.f != api.Fair {
				continue
			}
			fails := !n.found || n.points == 0
			for truth := range truths(o) {
				points := sumOf(truth.Archers[i].Arrows).Points - sumOf(a.Arrows).Points
				among := rankOf(truth, i) <= k
				if n.found && points >= n.points && !among {
					t.Fatal(o, truth, i, k, n)
				}
				fails = fails || points == n.points-1 && !among
			}
			if !fails {
				t.Fatal("one point less is enough", o, i, k, n)
			}
			if n.points > 0 {
				just++
			}
		}
	}
	if just < 50 {
		t.Error("too few need points", just)
	}
}

// settled is what Settled returns.
type settled struct {
	n     int
	found bool
	f     api.Foul
}

func settledOf(r api.Round, class, k int) settled {
	n, found, f := round.Settled(r, class, k)
	return settled{n, found, f}
}

// P4.3: when it was settled, and the fouls.
func TestSettled(t *testing.T) {
	outs := func(r api.Round, archers ...int) api.Round {
		for _, i := range archers {
			r.Archers[i].Out = true
		}
		return r
	}
	tie := short(1, 10, list(9), list(9))
	parted := func(r api.Round) api.Round {
		r = copyRound(r)
		r.Archers[0].Offs, r.Archers[1].Offs = []api.RoundOff{off(9, 1)}, []api.RoundOff{off(9, 2)}
		return r
	}
	for i, x := range []struct {
		r        api.Round
		class, k int
		want     settled
	}{
		{example(), 0, 1, settled{}},
		{example(), 0, 2, settled{}},
		{example(), 0, 4, settled{0, true, api.Fair}},
		{example(), 1, 1, settled{0, true, api.Fair}},
		{example(), 2, 1, settled{0, true, api.Fair}},
		{short(1, 1), 0, 1, settled{0, true, api.Fair}},
		{short(3, 10, list(10, 10, 10), list(0, 0, 0)), 0, 1, settled{2, true, api.Fair}},
		{short(3, 10, list(10, 10), list(0, 0)), 0, 1, settled{2, true, api.Fair}},
		{short(3, 10, list(10, 10), list(0)), 0, 1, settled{}},
		{short(3, 10, list(10, 10, 10), list(0)), 0, 1, settled{3, true, api.Fair}},
		{short(3, 10, list(10, 10, 0), list(0, 0, 10)), 0, 1, settled{2, true, api.Fair}},
		{short(3, 10, list(10, 9, 9), list(9, 10, 9)), 0, 1, settled{3, true, api.Fair}},
		{short(3, 10, list(10, 9), list(9, 10, 9)), 0, 1, settled{}},
		{short(3, 10, list(10, 10), nil), 0, 1, settled{}},
		// Whoever is out has been so from the beginning, and keeps all arrows.
		{outs(short(3, 10, list(10, 10, 10), list(0, 0, 0)), 1), 0, 1, settled{0, true, api.Fair}},
		{outs(short(3, 10, list(10, 10, 10), list(0)), 0), 0, 1, settled{0, true, api.Fair}},
		{outs(short(3, 10, list(9, 9), list(10, 10), list(0)), 0, 1), 0, 2, settled{0, true, api.Fair}},
		{outs(short(3, 10, list(9, 9, 9), list(9), list(9)), 0), 0, 1, settled{}},
		{outs(short(3, 10, list(9, 9, 9), list(9), list(9)), 0), 0, 2, settled{0, true, api.Fair}},
		// A shoot-off counts after the last arrow; without one, both are first.
		{tie, 0, 1, settled{1, true, api.Fair}},
		{parted(tie), 0, 1, settled{1, true, api.Fair}},
		// Before the last arrow it does not: the second one could still be first, too.
		{parted(short(2, 10, list(10, 0), list(0, 10))), 0, 1, settled{2, true, api.Fair}},
		{great(), 0, 1, settled{}},
		{great(), 0, 6, settled{0, true, api.Fair}},
		{example(), 4, 1, settled{f: api.OffLimits}},
		{example(), -1, 0, settled{f: api.OffLimits}},
		{example(), 0, 0, settled{f: api.OffLimits}},
		{example(), 0, 7, settled{f: api.OffLimits}},
		{example(), math.MaxInt, 1, settled{f: api.OffLimits}},
		{api.Round{}, 4, 0, settled{f: api.BadCount}},
	} {
		if s := settledOf(x.r, x.class, x.k); s != x.want {
			t.Error(i, s)
		}
	}
}

// P4.3: a whole round of which only the last arrow, or an early one, settles who is first.
func TestSettledLate(t *testing.T) {
	r := great()
	r.Archers = r.Archers[:2]
	r.Archers[0].Arrows = slices.Repeat(list(9), 60)
	r.Archers[1].Arrows = slices.Repeat(list(9), 60)
	if s := settledOf(r, 0, 1); s != (settled{60, true, api.Fair}) {
		t.Error(s)
	}
	r.Archers[1].Arrows[59] = 8
	if s := settledOf(r, 0, 1); s != (settled{60, true, api.Fair}) {
		t.Error(s)
	}
	r.Archers[1].Arrows = slices.Repeat(list(0), 60)
	// After 32 arrows the second one can have 280 points, and the first one has 288.
	if s := settledOf(r, 0, 1); s != (settled{32, true, api.Fair}) {
		t.Error(s)
	}
}

// P4.3, P4.10: it is settled when all are surely among the first ones or surely not, by all sums that are possible, and not one arrow earlier.
func TestSettledBySums(t *testing.T) {
	r := rand.New(rand.NewSource(26))
	after := make(map[int]int)
	for range 3000 {
		o := randomRound(r, 4, 1)
		if len(bests(o)) > 4 {
			continue
		}
		class, k := r.Intn(2), 1+r.Intn(3)
		most, want := 0, settled{}
		for _, a := range o.Archers {
			if a.Class == class {
				most = max(most, len(a.Arrows))
			}
		}
		for n := 0; n <= most && !want.found; n++ {
			then := possibleOfAll(cutTo(o, n))
			certain := func(i int) bool { return amongBySums(then, i, k) != api.Maybe }
			want.found = true
			for i, a := range o.Archers {
				want.found = want.found && (a.Class != class || certain(i))
			}
			want.n = n
		}
		if !want.found {
			want.n = 0
			after[-1]++
		} else {
			after[want.n]++
		}
		if s := settledOf(o, class, k); s != want {
			t.Fatal(o, class, k, s, want)
		}
	}
	for n := -1; n <= 4; n++ {
		if after[n] < 10 {
			t.Error("too few are settled after", n, after)
		}
	}
}

// P4.10: once it is settled who is among the first ones it stays so, whatever is shot up to the end.
func TestSettledStays(t *testing.T) {
	r := rand.New(rand.NewSource(27))
	early := 0
	for range 3000 {
		o := randomRound(r, 4, 3)
		all, k := len(bests(o)), 1+r.Intn(3)
		for i := range o.Archers {
			o.Archers[i].Offs = nil
		}
		s := settledOf(o, 0, k)
		if !s.found {
			continue
		}
		sures := make([]api.Sure, len(o.Archers))
		for i := range o.Archers {
			sures[i] = amongOf(t, cutTo(o, s.n), i, k)
		}
		end := copyRound(o)
		for range 3 {
			for i := range end.Archers {
				a := &end.Archers[i]
				if a.Out || a.Class != 0 {
					continue
				}
				a.Arrows = a.Arrows[:min(s.n, len(a.Arrows))]
				for _, best := range bests(o)[len(a.Arrows):] {
					a.Arrows = append(a.Arrows, randomNumber(r, best))
				}
			}
			for i, a := range end.Archers {
				if a.Class == 0 && amongOf(t, end, i, k) != sures[i] {
					t.Fatal(o, end, i, k, s)
				}
			}
			if again := settledOf(end, 0, k); !again.found || again.n > s.n {
				t.Fatal(o, end, k, s, again)
			}
		}
		if s.n > 0 && s.n < all {
			early++
		}
	}
	if early < 20 {
		t.Error("too few are settled early", early)
	}
}
