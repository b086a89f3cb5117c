package bracket_test

import (
	"math"
	"math/rand"
	"slices"
	"testing"

	"nock/api"
	"nock/bracket"
)

// chances is what Sides and Winners return.
type chances struct {
	one, two, wins []int
	f              api.Foul
}

func (c chances) same(d chances) bool {
	return slices.Equal(c.one, d.one) && slices.Equal(c.two, d.two) && slices.Equal(c.wins, d.wins) && c.f == d.f
}

// chancesOf calls Sides and Winners, which have the same fouls.
func chancesOf(t *testing.T, b api.BracketBook, match int) chances {
	t.Helper()
	one, two, f := bracket.Sides(b, match)
	wins, g := bracket.Winners(b, match)
	if f != g {
		t.Error("another foul", b, match, f, g)
	}
	return chances{one, two, wins, f}
}

// P5.4: who can be the sides of a match, and win it, and the fouls.
func TestSidesAndWinners(t *testing.T) {
	none := with(func(b *api.BracketBook) { b.Results = nil })
	clash := plain(4, told{0, 0, 3, 0}, told{2, 3, 1, 3})
	wrong := with(func(b *api.BracketBook) { b.Sets = 0 })
	for i, x := range []struct {
		b     api.BracketBook
		match int
		want  chances
	}{
		{example(), 1, chances{list(3), list(4), list(4), api.Fair}},
		{example(), 4, chances{list(0), list(4), list(0), api.Fair}},
		{example(), 5, chances{list(1), list(2), list(2), api.Fair}},
		{example(), 6, chances{list(0), list(2), list(0), api.Fair}},
		{example(), 7, chances{list(4), list(1), list(1, 4), api.Fair}},
		{none, 1, chances{list(3), list(4), list(3, 4), api.Fair}},
		{none, 4, chances{list(0), list(3, 4), list(0, 3, 4), api.Fair}},
		{none, 5, chances{list(1), list(2), list(1, 2), api.Fair}},
		{none, 6, chances{list(0, 3, 4), list(1, 2), list(0, 1, 2, 3, 4), api.Fair}},
		{none, 7, chances{list(0, 3, 4), list(1, 2), list(0, 1, 2, 3, 4), api.Fair}},
		{plain(2), 0, chances{list(0), list(1), list(0, 1), api.Fair}},
		{plain(3), 1, chances{list(1), list(2), list(1, 2), api.Fair}},
		{plain(3), 2, chances{list(0), list(1, 2), list(0, 1, 2), api.Fair}},
		{plain(4), 3, chances{list(0, 3), list(1, 2), list(0, 1, 2, 3), api.Fair}},
		{plain(8), 6, chances{list(0, 3, 4, 7), list(1, 2, 5, 6), list(0, 1, 2, 3, 4, 5, 6, 7), api.Fair}},
		// The third match says who won the semifinals, if both have had two sides.
		{plain(4, told{3, 3, 2, 3}), 0, chances{list(0), list(3), list(0), api.Fair}},
		{plain(4, told{3, 3, 2, 3}), 2, chances{list(0), list(1), list(0, 1), api.Fair}},
		{plain(8, told{7, 4, 5, 5}), 4, chances{list(0, 7), list(4), list(0, 7), api.Fair}},
		{plain(8, told{7, 4, 5, 5}), 6, chances{list(0, 7), list(1, 6), list(0, 1, 6, 7), api.Fair}},
		{plain(8, told{7, 4, 5, 5}, told{2, 1, 6, 6}), 6, chances{list(0, 7), list(6), list(0, 6, 7), api.Fair}},
		{example(), 0, chances{f: api.Unknown}},
		{example(), 2, chances{f: api.Unknown}},
		{example(), 3, chances{f: api.Unknown}},
		{example(), 8, chances{f: api.Unknown}},
		{example(), -1, chances{f: api.Unknown}},
		{example(), math.MaxInt, chances{f: api.Unknown}},
		{example(), math.MinInt, chances{f: api.Unknown}},
		{plain(3), 0, chances{f: api.Unknown}},
		{plain(3), 3, chances{f: api.Unknown}},
		{plain(2), 1, chances{f: api.Unknown}},
		{plain(2), 7, chances{f: api.Unknown}},
		{clash, 1, chances{f: api.Against}},
		{clash, 4, chances{f: api.Unknown}},
		{wrong, 8, chances{f: api.OffLimits}},
	} {
		if c := chancesOf(t, x.b, x.match); !c.same(x.want) {
			t.Error(i, c)
		}
	}
}

// reached is what Reaches returns.
type reached struct {
	is api.Sure
	f  api.Foul
}

// P5.4: who is in a match of a round, and the fouls.
func TestReaches(t *testing.T) {
	none := with(func(b *api.BracketBook) { b.Results = nil })
	clash := plain(4, told{0, 0, 3, 0}, told{2, 3, 1, 3})
	wrong := with(func(b *api.BracketBook) { b.Sets = 0 })
	yes, no, maybe := reached{api.Yes, api.Fair}, reached{api.No, api.Fair}, reached{api.Maybe, api.Fair}
	for i, x := range []struct {
		b           api.BracketBook
		seed, round int
		want        reached
	}{
		{example(), 3, 0, yes}, {example(), 3, 1, no}, {example(), 3, 2, no},
		{example(), 4, 0, yes}, {example(), 4, 1, yes}, {example(), 4, 2, no}, // though it is in the third match
		{example(), 1, 1, yes}, {example(), 1, 2, no}, {example(), 2, 2, yes}, {example(), 0, 2, yes},
		{none, 0, 0, yes}, {none, 2, 0, yes}, // a match that is not shot counts
		{none, 0, 1, yes}, {none, 3, 1, maybe}, {none, 4, 1, maybe}, {none, 0, 2, maybe}, {none, 3, 2, maybe},
		{plain(2), 1, 0, yes}, {plain(3), 0, 1, yes}, {plain(3), 2, 1, maybe},
		{plain(4, told{3, 3, 2, 3}), 0, 1, yes}, {plain(4, told{3, 3, 2, 3}), 3, 1, no},
		{plain(8, told{7, 4, 5, 5}), 4, 1, yes}, {plain(8, told{7, 4, 5, 5}), 4, 2, no}, {plain(8, told{7, 4, 5, 5}), 3, 1, no},
		{plain(8, told{7, 4, 5, 5}), 0, 1, maybe}, {plain(8, told{7, 4, 5, 5}), 0, 2, maybe},
		{example(), 5, 0, reached{f: api.Unknown}},
		{example(), -1, 0, reached{f: api.Unknown}},
		{example(), 5, 3, reached{f: api.Unknown}},
		{example(), math.MaxInt, 0, reached{f: api.Unknown}},
		{example(), 0, 3, reached{f: api.OffLimits}},
		{example(), 0, -1, reached{f: api.OffLimits}},
		{example(), 0, math.MinInt, reached{f: api.OffLimits}},
		{example(), 0, math.MaxInt, reached{f: api.OffLimits}},
		{plain(4), 0, 2, reached{f: api.OffLimits}},
		{plain(3), 0, 2, reached{f: api.OffLimits}},
		{plain(2), 0, 1, reached{f: api.OffLimits}},
		{clash, 0, 0, reached{f: api.Against}},
		{clash, 0, 2, reached{f: api.OffLimits}},
		{clash, 4, 0, reached{f: api.Unknown}},
		{wrong, 5, 3, reached{f: api.OffLimits}},
		{api.BracketBook{Sets: 1}, 5, 3, reached{f: api.BadCount}},
	} {
		is, f := bracket.Reaches(x.b, x.seed, x.round)
		if (reached{is, f}) != x.want {
			t.Error(i, is, f)
		}
	}
}

// P5.4: who surely wins which medal, and the fouls.
func TestMedals(t *testing.T) {
	for what, x := range map[string]struct {
		b    api.BracketBook
		want api.BracketMedals
		f    api.Foul
	}{
		"the example":           {example(), medals(0, 2, nobody), api.Fair},
		"nothing told":          {plain(5), medals(nobody, nobody, nobody), api.Fair},
		"bronze":                {plain(5, told{7, 4, 1, 1}), medals(nobody, nobody, 1), api.Fair},
		"bronze of four":        {plain(4, told{3, 3, 2, 3}), medals(nobody, nobody, 3), api.Fair},
		"gold of four":          {plain(4, told{2, 3, 2, 2}), medals(2, 3, nobody), api.Fair},
		"all of four":           {plain(4, told{2, 3, 2, 2}, told{3, 0, 1, 1}), medals(2, 3, 1), api.Fair},
		"two":                   {plain(2, told{0, 0, 1, 1}), medals(1, 0, nobody), api.Fair},
		"two, not yet":          {plain(2), medals(nobody, nobody, nobody), api.Fair},
		"three":                 {plain(3, told{2, 0, 2, 2}), medals(2, 0, 1), api.Fair},
		"three, the first lost": {plain(3, told{2, 0, 1, 0}), medals(0, 1, 2), api.Fair},
		"three, before":         {plain(3, told{1, 1, 2, 1}), medals(nobody, nobody, 2), api.Fair},
		"three, not yet":        {plain(3), medals(nobody, nobody, nobody), api.Fair},
		"a clash":               {plain(4, told{0, 0, 3, 0}, told{2, 3, 1, 3}), api.BracketMedals{}, api.Against},
		"a foul":                {with(func(b *api.BracketBook) { b.Seeds = b.Seeds[:4] }), api.BracketMedals{}, api.Unknown},
		"no bracket":            {api.BracketBook{}, api.BracketMedals{}, api.OffLimits},
	} {
		if m, f := bracket.Medals(x.b); m != x.want || f != x.f {
			t.Error(what, m, f)
		}
	}
}

// isIn returns the matches of a round in which a seed is, in a truth.
func isIn(seeds int, x truth, seed, round int) bool {
	return slices.ContainsFunc(roundsBySize[sizeOf(seeds)][round], func(match int) bool { return x[match].one == seed || x[match].two == seed })
}

// sureIn returns whether a seed is in a match of a round in all of some truths, in none, or in some.
func sureIn(seeds int, some []truth, seed, round int) api.Sure {
	many := 0
	for _, x := range some {
		if isIn(seeds, x, seed, round) {
			many++
		}
	}
	switch many {
	case 0:
		return api.No
	case len(some):
		return api.Yes
	}
	return api.Maybe
}

// P5.4, P2: sides, winners, rounds and medals are those of all truths that agree with the results.
func TestChancesOfTruths(t *testing.T) {
	r := rand.New(rand.NewSource(31))
	seen := make(map[api.Sure]int)
	for range 400 {
		b := randomBook(r, 5)
		some, seeds := known(b), len(b.Seeds)
		if len(some) == 0 {
			continue
		}
		for match := range api.MaxBracketSeeds {
			want := chances{f: api.Unknown}
			if some[0][match].isShot() {
				want = chances{
					ascending(some, func(x truth) int { return x[match].one }),
					ascending(some, func(x truth) int { return x[match].two }),
					ascending(some, func(x truth) int { return x[match].winner }),
					api.Fair,
				}
			}
			if c := chancesOf(t, b, match); !c.same(want) {
				t.Fatal(b, match, c, want)
			}
		}
		for seed := range seeds {
			for round := range roundsBySize[sizeOf(seeds)] {
				is := reaches(t, b, seed, round)
				if is != sureIn(seeds, some, seed, round) {
					t.Fatal(b, seed, round, is)
				}
				seen[is]++
			}
		}
		if m := medalsOf(t, b); m != wantedMedals(seeds, some) {
			t.Fatal(b, m)
		}
	}
	if seen[api.Yes] < 300 || seen[api.No] < 300 || seen[api.Maybe] < 300 {
		t.Error("too few of a kind", seen)
	}
}

// P5.4, P1: with results that do not fit all that is asked of truths is Against, in any bracket.
func TestAgainst(t *testing.T) {
	r := rand.New(rand.NewSource(32))
	many := 0
	for range 800 {
		b := randomBook(r, 6)
		if len(known(b)) > 0 {
			continue
		}
		many++
		match := pick(r, shotIn(len(b.Seeds)))
		one, two, f0 := bracket.Sides(b, match)
		wins, f1 := bracket.Winners(b, match)
		is, f2 := bracket.Reaches(b, 0, 0)
		m, f3 := bracket.Medals(b)
		open, f4 := bracket.Open(b)
		because, gold, f5 := bracket.Because(b)
		o, f6 := bracket.Tell(b, b.Results[0])
		want := api.Against
		if len(b.Results) == api.MaxBracketResults {
			want = api.BadCount
		}
		for i, f := range []api.Foul{f0, f1, f2, f3, f4, f5} {
			if f != api.Against {
				t.Fatal(b, i, f)
			}
		}
		if f6 != want || !zero(one, two, wins, is, m, open, because, gold, o.Sets, o.Seeds, o.Results) {
			t.Fatal(b, f6, one, two, wins, is, m, open, because, gold, o)
		}
	}
	if many < 100 {
		t.Error("too few that do not fit", many)
	}
}
