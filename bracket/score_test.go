package bracket_test

import (
	"cmp"
	"math"
	"math/rand"
	"slices"
	"testing"

	"nock/api"
	"nock/bracket"
)

// score is what Score returns.
type score struct {
	one, two, winner int
	f                api.Foul
}

func scoreOf(most int, sets, offs []api.BracketPair) score {
	one, two, winner, f := bracket.Score(most, sets, offs)
	return score{one, two, winner, f}
}

// foul is what Score returns with a foul.
func foul(f api.Foul) score { return score{f: f} }

// P5.2: points and winners.
func TestScore(t *testing.T) {
	even := slices.Repeat(pairs(20, 20), 5)
	for i, x := range []struct {
		most       int
		sets, offs []api.BracketPair
		want       score
	}{
		{5, example().Results[0].Sets, nil, score{7, 3, 0, api.Fair}},
		{5, example().Results[1].Sets, nil, score{0, 6, 1, api.Fair}},
		{5, nil, nil, score{0, 0, -1, api.Fair}},
		{5, pairs(60, 0), nil, score{2, 0, -1, api.Fair}},
		{5, pairs(0, 60), nil, score{0, 2, -1, api.Fair}},
		{5, pairs(0, 0), nil, score{1, 1, -1, api.Fair}},
		{5, pairs(1, 0, 1, 0), nil, score{4, 0, -1, api.Fair}},
		{5, pairs(1, 0, 1, 0, 0, 0), nil, score{5, 1, -1, api.Fair}},
		{5, pairs(1, 0, 1, 0, 1, 0), nil, score{6, 0, 0, api.Fair}},
		{5, pairs(1, 0, 1, 0, 0, 0, 0, 0), nil, score{6, 2, 0, api.Fair}},
		{5, pairs(1, 0, 0, 0, 0, 0, 0, 0, 0, 0), nil, score{6, 4, 0, api.Fair}},
		{5, pairs(0, 0, 0, 0, 0, 0, 0, 0, 0, 1), nil, score{4, 6, 1, api.Fair}},
		{5, even, nil, score{5, 5, -1, api.Fair}},
		{5, even, pairs(3, 4), score{5, 5, 0, api.Fair}},
		{5, even, pairs(4, 3), score{5, 5, 1, api.Fair}},
		{5, even, pairs(3, 3), score{5, 5, -1, api.Fair}},
		{5, even, pairs(3, 3, 0, 999), score{5, 5, 0, api.Fair}},
		{5, even, pairs(0, 0, 999, 999, 1, 0), score{5, 5, 1, api.Fair}},
		{5, even, pairs(0, 0, 999, 999, 1, 1), score{5, 5, -1, api.Fair}},
		{1, pairs(1, 0), nil, score{2, 0, 0, api.Fair}},
		{1, pairs(0, 1), nil, score{0, 2, 1, api.Fair}},
		{1, pairs(1, 1), nil, score{1, 1, -1, api.Fair}},
		{1, pairs(1, 1), pairs(2, 1), score{1, 1, 1, api.Fair}},
		{2, pairs(1, 0), nil, score{2, 0, -1, api.Fair}},
		{2, pairs(1, 0, 1, 1), nil, score{3, 1, 0, api.Fair}},
		{2, pairs(1, 0, 0, 1), nil, score{2, 2, -1, api.Fair}},
		{2, pairs(1, 0, 0, 1), pairs(0, 1), score{2, 2, 0, api.Fair}},
		{3, pairs(1, 0, 1, 0), nil, score{4, 0, 0, api.Fair}},
		{4, pairs(1, 0, 1, 0), nil, score{4, 0, -1, api.Fair}},
		{4, pairs(1, 0, 1, 0, 0, 1, 0, 1), pairs(5, 6), score{4, 4, 0, api.Fair}},
	} {
		if s := scoreOf(x.most, x.sets, x.offs); s != x.want {
			t.Error(i, s)
		}
	}
}

// P5.2: the fouls of a match.
func TestScoreFouls(t *testing.T) {
	even := slices.Repeat(pairs(20, 20), 5)
	three := pairs(25, 20, 25, 20, 25, 20)
	for i, x := range []struct {
		most       int
		sets, offs []api.BracketPair
		want       api.Foul
	}{
		{0, nil, nil, api.OffLimits},
		{-1, nil, nil, api.OffLimits},
		{6, nil, nil, api.OffLimits},
		{math.MinInt, nil, nil, api.OffLimits},
		{math.MaxInt, nil, nil, api.OffLimits},
		{1, pairs(1, 1, 1, 1), nil, api.BadCount},
		{5, slices.Repeat(pairs(1, 1), 6), nil, api.BadCount},
		{5, make([]api.BracketPair, 1<<20), nil, api.BadCount},
		{5, pairs(61, 0), nil, api.OffLimits},
		{5, pairs(0, 61), nil, api.OffLimits},
		{5, pairs(-1, 0), nil, api.OffLimits},
		{5, pairs(0, -1), nil, api.OffLimits},
		{5, pairs(math.MaxInt, math.MinInt), nil, api.OffLimits},
		{5, pairs(1, 1, 1, 1, 1, 61), nil, api.OffLimits},
		{5, append(slices.Clone(three), pairs(1, 1)...), nil, api.Against},
		{3, pairs(1, 0, 1, 0, 0, 1), nil, api.Against},
		{2, pairs(1, 0, 0, 1, 1, 1), nil, api.BadCount},
		{5, even, slices.Repeat(pairs(1, 1), 4), api.BadCount},
		{5, even, make([]api.BracketPair, 1<<20), api.BadCount},
		{5, even[:4], pairs(1, 2), api.Against},
		{5, nil, pairs(1, 2), api.Against},
		{5, three, pairs(1, 2), api.Against},
		{1, pairs(1, 0), pairs(1, 2), api.Against},
		{2, pairs(1, 0, 1, 1), pairs(1, 2), api.Against},
		{5, even, pairs(1000, 0), api.OffLimits},
		{5, even, pairs(0, 1000), api.OffLimits},
		{5, even, pairs(-1, 0), api.OffLimits},
		{5, even, pairs(0, -1), api.OffLimits},
		{5, even, pairs(1, 1, 2, 2, math.MinInt, 0), api.OffLimits},
		{5, even, pairs(1, 2, 1, 2), api.Against},
		{5, even, pairs(1, 2, 1, 1), api.Against},
		{5, even, pairs(1, 1, 2, 1, 1, 1), api.Against},
	} {
		if s := scoreOf(x.most, x.sets, x.offs); s != foul(x.want) {
			t.Error(i, s)
		}
	}
}

// P5.2, R1: of several fouls the first one counts: each row repairs the first foul of the row before.
func TestScoreOrder(t *testing.T) {
	four := slices.Repeat(pairs(1000, 0), 4)
	for i, x := range []struct {
		most       int
		sets, offs []api.BracketPair
		want       api.Foul
	}{
		{0, pairs(1, 0, 99, 0, 1, 0), four, api.OffLimits},
		{1, pairs(1, 0, 99, 0, 1, 0), four, api.BadCount},
		{3, pairs(1, 0, 1, 0, 99, 0), four, api.OffLimits}, // the third set is off limits, and too much
		{3, pairs(1, 0, 1, 0, 9, 0), four, api.Against},
		{3, pairs(1, 0, 1, 0), four, api.BadCount},
		{3, pairs(1, 0, 1, 0), four[:3], api.Against},
		{3, pairs(1, 0, 0, 1), four[:3], api.Against},
		{2, pairs(1, 0, 0, 1), four[:3], api.OffLimits},
		{2, pairs(1, 0, 0, 1), pairs(1, 0, 1000, 0), api.OffLimits}, // the second arrow is off limits, and too much
		{2, pairs(1, 0, 0, 1), pairs(1, 0, 1, 0), api.Against},
		{2, pairs(1, 0, 0, 1), pairs(1, 0), api.Fair},
	} {
		if s := scoreOf(x.most, x.sets, x.offs); s.f != x.want {
			t.Error(i, s)
		}
	}
	// An earlier set that is too much comes before a later one that is off limits.
	if s := scoreOf(4, pairs(1, 0, 1, 0, 1, 0, 1, 0), nil); s != foul(api.Against) {
		t.Error(s)
	}
	if s := scoreOf(5, pairs(1, 0, 1, 0, 1, 0, 1, 0, 99, 0), nil); s != foul(api.Against) {
		t.Error(s)
	}
	if s := scoreOf(1, pairs(1, 1), pairs(1, 0, 1, 0, 1000, 0)); s != foul(api.Against) {
		t.Error(s)
	}
}

// prefixScore returns what Score must return of numbers that are within their limits: by each beginning of the sets, in turn.
func prefixScore(most int, sets, offs []api.BracketPair) score {
	points := func(n int) (one, two int) {
		for _, set := range sets[:n] {
			one += 1 + cmp.Compare(set.One, set.Two)
			two += 1 - cmp.Compare(set.One, set.Two)
		}
		return one, two
	}
	if len(sets) > most {
		return foul(api.BadCount)
	}
	for n := range sets {
		if one, two := points(n); one > most || two > most {
			return foul(api.Against)
		}
	}
	one, two := points(len(sets))
	winner := -1
	if one > most {
		winner = 0
	} else if two > most {
		winner = 1
	}
	if len(offs) > 0 && (len(sets) < most || one != two) {
		return foul(api.Against)
	}
	for i, off := range offs {
		if off.One == off.Two {
			continue
		}
		if i < len(offs)-1 {
			return foul(api.Against)
		}
		winner = (1 + cmp.Compare(off.One, off.Two)) / 2
	}
	return score{one, two, winner, api.Fair}
}

// randomPairs returns at most so many pairs of numbers from 0 to great.
func randomPairs(r *rand.Rand, many, great int) []api.BracketPair {
	var all []api.BracketPair
	for range r.Intn(many + 1) {
		all = append(all, api.BracketPair{One: r.Intn(great + 1), Two: r.Intn(great + 1)})
	}
	return all
}

// P5.2: all matches, those that are not ended and those that are shot for too long as well.
func TestScoreOfAny(t *testing.T) {
	r := rand.New(rand.NewSource(11))
	seen := make(map[score]int)
	for range 30000 {
		most, sets := 1+r.Intn(5), randomPairs(r, 5, 2)
		if r.Intn(2) == 0 {
			sets = sets[:min(most, len(sets))]
		}
		if r.Intn(3) == 0 {
			sets = slices.Repeat(pairs(1, 0, 0, 1), 3)[:most]
		}
		offs := randomPairs(r, 3, 2)
		if r.Intn(2) == 0 {
			offs = nil
		}
		s, want := scoreOf(most, sets, offs), prefixScore(most, sets, offs)
		if s != want {
			t.Fatal(most, sets, offs, s, want)
		}
		seen[score{winner: s.winner, f: s.f}]++
	}
	for _, x := range []score{{winner: 0}, {winner: 1}, {winner: -1}, foul(api.BadCount), foul(api.Against)} {
		if seen[x] < 500 {
			t.Error("too few of a kind", x, seen[x])
		}
	}
}

// P5.2: matches as they are shot are decided, and by one set, or arrow, less they are not.
func TestScoreOfMatches(t *testing.T) {
	r := rand.New(rand.NewSource(12))
	for range 5000 {
		most, second := 1+r.Intn(5), r.Intn(2)
		sets, offs := randomMatch(r, most, second == 1)
		if s := scoreOf(most, sets, offs); s.winner != second || s.f != api.Fair {
			t.Fatal(most, sets, offs, s)
		}
		if len(offs) > 0 {
			offs = offs[:len(offs)-1]
		} else {
			sets = sets[:len(sets)-1]
		}
		if s := scoreOf(most, sets, offs); s.winner != -1 || s.f != api.Fair {
			t.Fatal(most, sets, offs, s)
		}
	}
}

func turned(all []api.BracketPair) []api.BracketPair {
	var other []api.BracketPair
	for _, x := range all {
		other = append(other, api.BracketPair{One: x.Two, Two: x.One})
	}
	return other
}

// P5.10: sides that are changed about change the points and the winner about.
func TestScoreTurned(t *testing.T) {
	r := rand.New(rand.NewSource(13))
	for range 5000 {
		most, sets, offs := 1+r.Intn(5), randomPairs(r, 5, 2), randomPairs(r, 3, 1)
		if r.Intn(2) == 0 {
			sets, offs = randomMatch(r, most, r.Intn(2) == 0)
		}
		s := scoreOf(most, sets, offs)
		want := score{s.two, s.one, s.winner, s.f}
		if s.f == api.Fair && s.winner >= 0 {
			want.winner = 1 - s.winner
		}
		if o := scoreOf(most, turned(sets), turned(offs)); o != want {
			t.Fatal(most, sets, offs, s, o)
		}
	}
}

// P5.10: a greater total never takes points from a side, nor gives the other one more.
func TestScoreGreaterTotal(t *testing.T) {
	r := rand.New(rand.NewSource(14))
	more := 0
	for range 10000 {
		most, sets := 1+r.Intn(5), randomPairs(r, 5, 4)
		if len(sets) == 0 {
			continue
		}
		greater := slices.Clone(sets)
		greater[r.Intn(len(sets))].One += 1 + r.Intn(3)
		a, b := scoreOf(most, sets, nil), scoreOf(most, greater, nil)
		if a.f != api.Fair || b.f != api.Fair {
			continue
		}
		if b.one < a.one || b.two > a.two || a.winner == 0 && b.winner != 0 {
			t.Fatal(most, sets, greater, a, b)
		}
		if b.one > a.one {
			more++
		}
	}
	if more < 500 {
		t.Error("too few have more points", more)
	}
}
