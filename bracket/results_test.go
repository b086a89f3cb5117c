package bracket_test

import (
	"math/rand"
	"slices"
	"testing"

	"nock/api"
	"nock/bracket"
)

// P5.3: which results fit, which do not, and which are trusted.
func TestFits(t *testing.T) {
	add := func(l ...told) api.BracketBook {
		return with(func(b *api.BracketBook) {
			for _, x := range l {
				b.Results = append(b.Results, won(b.Sets, x))
			}
		})
	}
	for what, x := range map[string]struct {
		b            api.BracketBook
		clash, trust []int
	}{
		"the example":            {example(), nil, list(0, 1)},
		"nothing told":           {plain(5), nil, nil},
		"a semifinal lost":       {add(told{4, 0, 4, 4}), list(0, 2), list(0, 1)},
		"another winner":         {add(told{1, 3, 4, 3}), list(1, 2), list(0, 1)},
		"the same again":         {add(told{1, 3, 4, 4}), nil, list(0, 1, 2)},
		"a side that lost":       {add(told{4, 0, 3, 0}), list(1, 2), list(0, 1)},
		"the first is alone":     {add(told{5, 1, 2, 1}, told{4, 0, 4, 4}), list(0, 2), list(1, 2, 3)},
		"two pairs":              {add(told{4, 0, 3, 3}), list(0, 2), list(0, 1)},
		"both sides of a match":  {plain(4, told{0, 0, 3, 0}, told{2, 3, 1, 3}), list(0, 1), list(0)},
		"the third match":        {plain(4, told{3, 3, 2, 3}, told{2, 3, 1, 1}), list(0, 1), list(0)},
		"the loser in the final": {plain(8, told{7, 4, 5, 5}, told{6, 0, 5, 0}), list(0, 1), list(0)},
		"a third and the first":  {plain(8, told{7, 4, 5, 5}, told{0, 0, 7, 7}, told{6, 0, 1, 0}), list(1, 2), list(0, 1)},
		"another loser":          {plain(8, told{4, 7, 3, 3}, told{6, 3, 1, 1}, told{7, 0, 2, 0}), list(0, 2), list(0, 1)},
		"all against":            {plain(2, told{0, 0, 1, 0}, told{0, 0, 1, 1}, told{0, 0, 1, 0}), list(0, 1), list(0, 2)},
	} {
		if is := fits(t, x.b); is != (x.clash == nil) {
			t.Error(what, is)
		}
		if l := clashOf(t, x.b); !slices.Equal(l, x.clash) {
			t.Error(what, l)
		}
		if l := trustOf(t, x.b); !slices.Equal(l, x.trust) {
			t.Error(what, l)
		}
	}
}

// P5.3: the foul of a bracket comes from all of them.
func TestFitsFouls(t *testing.T) {
	wrong := with(func(b *api.BracketBook) { b.Results[1].Sets = nil })
	is, f1 := bracket.Fits(wrong)
	clash, f2 := bracket.Clash(wrong)
	trust, f3 := bracket.Trust(wrong)
	if is || len(clash) > 0 || len(trust) > 0 || f1 != api.NotEnough || f2 != api.NotEnough || f3 != api.NotEnough {
		t.Error(is, clash, trust, f1, f2, f3)
	}
}

// clashing returns the least of the shortest lists of results that agree with no truth.
func clashing(b api.BracketBook) []int {
	for _, l := range lists(len(b.Results)) {
		if len(agreeing(b, l)) == 0 {
			return l
		}
	}
	return nil
}

// trusted returns the least of the longest lists of results that agree with a truth.
func trusted(b api.BracketBook) []int {
	var longest []int
	for _, l := range lists(len(b.Results)) {
		if len(l) > len(longest) && len(agreeing(b, l)) > 0 {
			longest = l
		}
	}
	return longest
}

// P5.3, P4: the fewest that do not fit, and the most that do, are those of all lists.
func TestFitsOfLists(t *testing.T) {
	r := rand.New(rand.NewSource(21))
	long := make(map[int]int)
	for range 400 {
		b := randomBook(r, 5)
		clash, trust := clashing(b), trusted(b)
		if is := fits(t, b); is != (len(known(b)) > 0) {
			t.Fatal(b, is)
		}
		if l := clashOf(t, b); !slices.Equal(l, clash) {
			t.Fatal(b, l, clash)
		}
		if l := trustOf(t, b); !slices.Equal(l, trust) {
			t.Fatal(b, l, trust)
		}
		long[len(clash)]++
	}
	if long[0] < 50 || long[2] < 50 {
		t.Error("too few of a kind", long)
	}
}

// P5.11: what Clash returns does not fit, but does without any one; what Trust returns fits, and with any other one it does not.
func TestTrustAndClash(t *testing.T) {
	r := rand.New(rand.NewSource(22))
	clashes := 0
	for range 1500 {
		b := randomBook(r, 8)
		clash, trust := clashOf(t, b), trustOf(t, b)
		if len(clash) > 0 {
			clashes++
			if fits(t, only(b, clash)) {
				t.Fatal(b, clash)
			}
		}
		for i := range clash {
			if !fits(t, only(b, without(clash, i))) {
				t.Fatal(b, clash, i)
			}
		}
		if !fits(t, only(b, trust)) || (len(clash) == 0) != (len(trust) == len(b.Results)) {
			t.Fatal(b, trust, clash)
		}
		for i := range b.Results {
			if !slices.Contains(trust, i) && fits(t, only(b, append(slices.Clone(trust), i))) {
				t.Fatal(b, trust, i)
			}
		}
	}
	if clashes < 300 {
		t.Error("too few clashes", clashes)
	}
}

// P5.3: the bracket with one more result, and the fouls.
func TestTell(t *testing.T) {
	eight := with(func(b *api.BracketBook) { b.Results = slices.Repeat(b.Results, 4) })
	seven := with(func(b *api.BracketBook) { b.Results = slices.Repeat(b.Results, 4)[1:] })
	clash := plain(4, told{0, 0, 3, 0}, told{2, 3, 1, 3})
	for what, x := range map[string]struct {
		b    api.BracketBook
		r    api.BracketResult
		want api.Foul
	}{
		"the semifinal":            {example(), won(5, told{4, 0, 4, 0}), api.Fair},
		"a semifinal lost":         {example(), won(5, told{4, 0, 4, 4}), api.Against},
		"the third match":          {example(), won(5, told{7, 4, 1, 4}), api.Fair},
		"the same again":           {example(), example().Results[0], api.Fair},
		"the first of all":         {plain(2), won(3, told{0, 0, 1, 1}), api.Fair},
		"an eighth one":            {seven, example().Results[0], api.Fair},
		"a ninth one":              {eight, example().Results[0], api.BadCount},
		"a ninth one with a foul":  {eight, api.BracketResult{Match: -1}, api.BadCount},
		"sides that cannot be":     {example(), won(5, told{7, 1, 4, 4}), api.Against},
		"no such match":            {example(), won(5, told{8, 0, 4, 4}), api.Unknown},
		"a bye":                    {example(), won(5, told{0, 0, 0, 0}), api.Unknown},
		"no such seed":             {example(), won(5, told{4, 0, 5, 0}), api.Unknown},
		"not decided":              {example(), won(1, told{4, 0, 4, 0}), api.NotEnough},
		"not decided, and a clash": {example(), won(1, told{4, 0, 4, 4}), api.NotEnough},
		"too great a total":        {example(), api.BracketResult{Match: 4, One: 0, Two: 4, Sets: pairs(61, 0)}, api.OffLimits},
		"one more in a clash":      {clash, won(3, told{1, 1, 2, 1}), api.Against},
		"a foul before a clash":    {clash, won(3, told{4, 1, 2, 1}), api.Unknown},
		"the bracket's own foul":   {with(func(b *api.BracketBook) { b.Seeds[0] = "" }), won(5, told{8, 0, 4, 4}), api.BadName},
		"no bracket":               {api.BracketBook{}, won(5, told{8, 0, 4, 4}), api.OffLimits},
		"a foul of its results":    {with(func(b *api.BracketBook) { b.Results[1].Sets = nil }), won(5, told{8, 0, 4, 4}), api.NotEnough},
	} {
		old, want := copyBook(x.b), api.BracketBook{}
		if x.want == api.Fair {
			want = copyBook(x.b)
			want.Results = append(want.Results, copyResult(x.r))
		}
		if o, f := bracket.Tell(x.b, x.r); f != x.want || !sameBook(o, want) {
			t.Error(what, o, f)
		}
		if !sameBook(x.b, old) {
			t.Error(what, "an argument was changed", x.b)
		}
	}
}

// R4: a bracket with one more result shares no memory with the one before, nor with the result.
func TestTellSharesNothing(t *testing.T) {
	b := example()
	// The results have room behind them often; the next one must not be written there.
	b.Results = append(make([]api.BracketResult, 0, 9), b.Results...)
	r := api.BracketResult{Match: 5, One: 1, Two: 2, Sets: slices.Repeat(pairs(1, 0, 0, 1), 3)[:5], Offs: pairs(3, 2)}
	r.Sets[4] = pairs(0, 0)[0]
	one, f := bracket.Tell(b, r)
	fair(t, f)
	two, f := bracket.Tell(b, won(5, told{4, 0, 4, 0}))
	fair(t, f)
	if one.Results[2].Match != 5 || two.Results[2].Match != 4 {
		t.Error(one, two)
	}
	if room := b.Results[:3][2]; !sameResult(room, api.BracketResult{}) {
		t.Error("the room behind the results was written to", room)
	}
	for _, o := range []api.BracketBook{one, two} {
		for i := range o.Seeds {
			o.Seeds[i] = ""
		}
		for i, x := range o.Results {
			for j := range x.Sets {
				x.Sets[j] = api.BracketPair{}
			}
			for j := range x.Offs {
				x.Offs[j] = api.BracketPair{}
			}
			o.Results[i] = api.BracketResult{}
		}
	}
	if !sameBook(b, example()) || r.Sets[0].One != 1 || r.Offs[0].One != 3 {
		t.Error("memory is shared", b, r)
	}
}
