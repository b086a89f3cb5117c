package bracket_test

import (
	"math"
	"slices"
	"strings"
	"testing"

	"nock/api"
	"nock/bracket"
)

// P5.1: which brackets have which fouls.
func TestCheckBook(t *testing.T) {
	name := func(name string) func(b *api.BracketBook) { return func(b *api.BracketBook) { b.Seeds[1] = name } }
	sets := func(sets int) func(b *api.BracketBook) {
		return func(b *api.BracketBook) { b.Sets, b.Results = sets, nil }
	}
	seeds := func(seeds ...string) func(b *api.BracketBook) {
		return func(b *api.BracketBook) { b.Seeds, b.Results = seeds, nil }
	}
	sides := func(match, one, two int) func(b *api.BracketBook) {
		return func(b *api.BracketBook) {
			b.Results[0].Match, b.Results[0].One, b.Results[0].Two = match, one, two
		}
	}
	shot := func(sets, offs []api.BracketPair) func(b *api.BracketBook) {
		return func(b *api.BracketBook) { b.Results[1].Sets, b.Results[1].Offs = sets, offs }
	}
	even := slices.Repeat(pairs(20, 20), 5)
	for what, x := range map[string]struct {
		change func(b *api.BracketBook)
		want   api.Foul
	}{
		"as it is":               {func(b *api.BracketBook) {}, api.Fair},
		"no results":             {func(b *api.BracketBook) { b.Results = nil }, api.Fair},
		"empty results":          {func(b *api.BracketBook) { b.Results = []api.BracketResult{} }, api.Fair},
		"nothing":                {func(b *api.BracketBook) { *b = api.BracketBook{} }, api.OffLimits},
		"no sets":                {sets(0), api.OffLimits},
		"sets below":             {sets(-1), api.OffLimits},
		"least sets":             {sets(1), api.Fair},
		"sets above":             {sets(6), api.OffLimits},
		"great sets":             {sets(math.MaxInt), api.OffLimits},
		"no seeds":               {seeds(), api.BadCount},
		"one seed":               {seeds("ana"), api.BadCount},
		"two seeds":              {seeds("ana", "ben"), api.Fair},
		"eight seeds":            {seeds("a", "b", "c", "d", "e", "f", "g", "h"), api.Fair},
		"nine seeds":             {seeds("a", "b", "c", "d", "e", "f", "g", "h", "i"), api.BadCount},
		"very many seeds":        {seeds(make([]string, 1<<20)...), api.BadCount},
		"no name":                {name(""), api.BadName},
		"short name":             {name("b"), api.Fair},
		"name with digits":       {name("b09"), api.Fair},
		"long name":              {name("abcdefghijkl"), api.Fair},
		"too long a name":        {name("abcdefghijklm"), api.BadName},
		"very long name":         {name(strings.Repeat("a", 1<<20)), api.BadName},
		"digit first":            {name("1a"), api.BadName},
		"great letter":           {name("aB"), api.BadName},
		"great letter first":     {name("B"), api.BadName},
		"blank":                  {name("a b"), api.BadName},
		"line feed":              {name("a\n"), api.BadName},
		"other letter":           {name("ä"), api.BadName},
		"no letter":              {name("a\xff"), api.BadName},
		"next to a":              {name("`"), api.BadName},
		"next to z":              {name("z{"), api.BadName},
		"next to 0":              {name("z/"), api.BadName},
		"next to 9":              {name("z:"), api.BadName},
		"z and 9":                {name("z9"), api.Fair},
		"the first name":         {name("ana"), api.Twice},
		"a later name":           {name("eva"), api.Twice},
		"eight results":          {func(b *api.BracketBook) { b.Results = slices.Repeat(b.Results, 4) }, api.Fair},
		"nine results":           {func(b *api.BracketBook) { b.Results = append(slices.Repeat(b.Results, 4), b.Results[0]) }, api.BadCount},
		"very many results":      {func(b *api.BracketBook) { b.Results = make([]api.BracketResult, 1<<20) }, api.BadCount},
		"match below":            {sides(-1, 0, 2), api.Unknown},
		"match above":            {sides(8, 0, 2), api.Unknown},
		"great match":            {sides(math.MaxInt, 0, 2), api.Unknown},
		"match far below":        {sides(math.MinInt, 0, 2), api.Unknown},
		"first bye":              {sides(0, 0, 0), api.Unknown},
		"second bye":             {sides(2, 1, 1), api.Unknown},
		"third bye":              {sides(3, 2, 2), api.Unknown},
		"the third match":        {sides(7, 0, 2), api.Fair},
		"one below":              {sides(6, -1, 2), api.Unknown},
		"one above":              {sides(6, 5, 2), api.Unknown},
		"two below":              {sides(6, 0, -1), api.Unknown},
		"two above":              {sides(6, 0, 5), api.Unknown},
		"great two":              {sides(6, 0, math.MaxInt), api.Unknown},
		"another one":            {sides(6, 1, 2), api.Against},
		"another two":            {sides(6, 0, 3), api.Against},
		"sides changed about":    {sides(6, 2, 0), api.Against},
		"itself":                 {sides(6, 0, 0), api.Against},
		"one too early":          {sides(1, 0, 4), api.Against},
		"both of the first half": {sides(7, 0, 3), api.Against},
		"not shot":               {shot(nil, nil), api.NotEnough},
		"too short":              {shot(pairs(1, 0, 1, 0), nil), api.NotEnough},
		"tied":                   {shot(even, nil), api.NotEnough},
		"tied in a shoot-off":    {shot(even, pairs(1, 1)), api.NotEnough},
		"tied to the end":        {shot(even, pairs(1, 1, 2, 2, 3, 3)), api.NotEnough},
		"won by a shoot-off":     {shot(even, pairs(1, 1, 2, 2, 3, 4)), api.Fair},
		"too many sets":          {shot(slices.Repeat(pairs(1, 1), 6), nil), api.BadCount},
		"total above":            {shot(pairs(61, 0, 1, 0, 1, 0), nil), api.OffLimits},
		"won before":             {shot(pairs(1, 0, 1, 0, 1, 0, 1, 0), nil), api.Against},
		"too long a shoot-off":   {shot(even, pairs(1, 1, 2, 2, 3, 3, 4, 5)), api.BadCount},
		"too early a shoot-off":  {shot(pairs(1, 1), pairs(1, 2)), api.Against},
		"too far":                {shot(even, pairs(1, 1000)), api.OffLimits},
		"fewer sets at most":     {func(b *api.BracketBook) { b.Sets = 4 }, api.BadCount},
		"more sets at most":      {func(b *api.BracketBook) { b.Sets = 3; b.Results[0].Sets = pairs(1, 0, 1, 0) }, api.Against},
		"results that clash":     {func(b *api.BracketBook) { b.Results[1].Match, b.Results[1].One = 4, 0 }, api.Fair},
	} {
		b := with(x.change)
		if f := bracket.CheckBook(b); f != x.want {
			t.Error(what, f)
		}
	}
}

// P5.1: which matches are shot, and who can be a side of each, whoever wins.
func TestCheckBookSides(t *testing.T) {
	for seeds := 2; seeds <= api.MaxBracketSeeds; seeds++ {
		shot, all := shotIn(seeds), truths(seeds)
		for match := -1; match <= api.MaxBracketSeeds; match++ {
			for one := -1; one <= seeds; one++ {
				for two := -1; two <= seeds; two++ {
					want := api.Unknown
					if slices.Contains(shot, match) && min(one, two) >= 0 && max(one, two) < seeds {
						want = api.Against
						if slices.Contains(ascending(all, func(x truth) int { return x[match].one }), one) &&
							slices.Contains(ascending(all, func(x truth) int { return x[match].two }), two) {
							want = api.Fair
						}
					}
					b := plain(seeds, told{match, one, two, one})
					if f := bracket.CheckBook(b); f != want {
						t.Error(seeds, match, one, two, f)
					}
				}
			}
		}
	}
}

// P5.1, R1: of several fouls the first one counts: each row repairs the first foul of the row before.
func TestCheckBookOrder(t *testing.T) {
	b := api.BracketBook{Seeds: make([]string, 9), Results: make([]api.BracketResult, 9)}
	first := &b.Results[0]
	for i, x := range []struct {
		want   api.Foul
		repair func()
	}{
		{api.OffLimits, func() { b.Sets = 3 }},
		{api.BadCount, func() { b.Seeds = []string{"a", "a", "B", "c", "d"} }},
		{api.Twice, func() { b.Seeds[1] = "b" }},
		{api.BadName, func() { b.Seeds[2] = "a" }},
		{api.Twice, func() { b.Seeds[2] = "e" }},
		{api.BadCount, func() {
			b.Results = make([]api.BracketResult, 2)
			b.Results[1].Match = 9
			first = &b.Results[0]
			*first = api.BracketResult{Match: 8, One: 5, Two: -1, Sets: pairs(1, 0, 1, 0, 99, 0, 1, 1), Offs: pairs(1000, 0)}
		}},
		{api.Unknown, func() { first.Match = 1 }},
		{api.Unknown, func() { first.One = 4 }},
		{api.Unknown, func() { first.Two = 4 }},
		{api.Against, func() { first.One = 3 }},
		{api.BadCount, func() { first.Sets = first.Sets[:3] }},
		{api.OffLimits, func() { first.Sets[2].One = 9 }},
		{api.Against, func() { first.Sets[2] = pairs(1, 1)[0]; first.Sets[1] = pairs(0, 1)[0] }},
		{api.OffLimits, func() { first.Offs[0] = pairs(1, 1)[0] }},
		{api.NotEnough, func() { first.Offs[0].Two = 0 }},
		{api.Unknown, func() { b.Results = b.Results[:1] }},
	} {
		if f := bracket.CheckBook(b); f != x.want {
			t.Error(i, f)
		}
		x.repair()
	}
	fair(t, bracket.CheckBook(b))
}
