package bracket_test

import (
	"math/rand"
	"slices"
	"testing"

	"nock/api"
	"nock/bracket"
)

// P5.5: which matches can be shot next, and the fouls.
func TestOpen(t *testing.T) {
	for what, x := range map[string]struct {
		b    api.BracketBook
		want []int
		f    api.Foul
	}{
		"the example":           {example(), list(4, 5, 7), api.Fair},
		"nothing told":          {plain(5), list(1, 5), api.Fair},
		"two":                   {plain(2), list(0), api.Fair},
		"two, told":             {plain(2, told{0, 0, 1, 1}), nil, api.Fair},
		"three":                 {plain(3), list(1), api.Fair},
		"three, one told":       {plain(3, told{1, 1, 2, 2}), list(2), api.Fair},
		"three, the final told": {plain(3, told{2, 0, 2, 2}), list(1), api.Fair},
		"three, all told":       {plain(3, told{2, 0, 2, 2}, told{1, 1, 2, 2}), nil, api.Fair},
		"four":                  {plain(4), list(0, 1), api.Fair},
		"four, one told":        {plain(4, told{0, 0, 3, 0}), list(1), api.Fair},
		"four, two told":        {plain(4, told{0, 0, 3, 0}, told{1, 1, 2, 1}), list(2, 3), api.Fair},
		"four, the third told":  {plain(4, told{3, 3, 2, 3}), list(0, 1, 2), api.Fair},
		"four, told twice":      {plain(4, told{0, 0, 3, 0}, told{0, 0, 3, 0}), list(1), api.Fair},
		"eight":                 {plain(8), list(0, 1, 2, 3), api.Fair},
		"eight, one told":       {plain(8, told{4, 7, 4, 4}), list(0, 1, 2, 3), api.Fair},
		"all told":              {great(), nil, api.Fair},
		"a clash":               {plain(4, told{0, 0, 3, 0}, told{2, 3, 1, 3}), nil, api.Against},
		"a foul":                {with(func(b *api.BracketBook) { b.Seeds[4] = "ana" }), nil, api.Twice},
	} {
		if l, f := bracket.Open(x.b); !slices.Equal(l, x.want) || f != x.f {
			t.Error(what, l, f)
		}
	}
}

// P5.5: which results make Gold certain, and the fouls.
func TestBecause(t *testing.T) {
	for what, x := range map[string]struct {
		b    api.BracketBook
		want []int
		gold int
		f    api.Foul
	}{
		"the example":         {example(), list(0), 0, api.Fair},
		"nothing told":        {plain(5), nil, nobody, api.Fair},
		"no final":            {plain(4, told{0, 0, 3, 0}, told{1, 1, 2, 1}), nil, nobody, api.Fair},
		"the final":           {plain(4, told{0, 0, 3, 0}, told{2, 0, 1, 1}), list(1), 1, api.Fair},
		"the final, twice":    {plain(4, told{2, 0, 1, 1}, told{0, 0, 3, 0}, told{2, 0, 1, 1}), list(0), 1, api.Fair},
		"the final, at last":  {plain(4, told{0, 0, 3, 0}, told{3, 3, 2, 2}, told{2, 0, 1, 1}), list(2), 1, api.Fair},
		"the third is nobody": {plain(3, told{1, 1, 2, 1}), nil, nobody, api.Fair},
		"two":                 {plain(2, told{0, 0, 1, 0}), list(0), 0, api.Fair},
		"all told":            {great(), list(6), 0, api.Fair},
		"a clash":             {plain(4, told{0, 0, 3, 0}, told{2, 3, 1, 3}), nil, 0, api.Against},
		"a foul":              {with(func(b *api.BracketBook) { b.Sets = 6 }), nil, 0, api.OffLimits},
	} {
		if l, gold, f := bracket.Because(x.b); !slices.Equal(l, x.want) || gold != x.gold || f != x.f {
			t.Error(what, l, gold, f)
		}
	}
}

// reasons returns the least of the shortest lists of results that agree only with truths in which gold wins the final.
func reasons(b api.BracketBook, gold int) []int {
	final := sizeOf(len(b.Seeds)) - 2
	for _, l := range lists(len(b.Results)) {
		if !slices.ContainsFunc(agreeing(b, l), func(x truth) bool { return x[final].winner != gold }) {
			return l
		}
	}
	return nil
}

// P5.5, P4: what is open is that of all truths, and the fewest results that make Gold certain those of all lists.
func TestNextOfTruths(t *testing.T) {
	r := rand.New(rand.NewSource(41))
	golds, many := 0, make(map[int]int)
	for range 500 {
		b, _ := randomTrue(r, 6)
		some := known(b)
		var want []int
		for match, f := range some[0] {
			told := slices.ContainsFunc(b.Results, func(r api.BracketResult) bool { return r.Match == match })
			other := slices.ContainsFunc(some, func(x truth) bool { return x[match].one != f.one || x[match].two != f.two })
			if f.isShot() && !told && !other {
				want = append(want, match)
			}
		}
		if l := openOf(t, b); !slices.Equal(l, want) {
			t.Fatal(b, l, want)
		}
		many[len(want)]++
		l, gold := becauseOf(t, b)
		if m := wantedMedals(len(b.Seeds), some); gold != m.Gold {
			t.Fatal(b, gold, m)
		}
		if gold != nobody {
			golds++
			if want = reasons(b, gold); !slices.Equal(l, want) {
				t.Fatal(b, gold, l, want)
			}
		} else if len(l) > 0 {
			t.Fatal(b, l)
		}
	}
	if golds < 100 || many[0] < 20 || many[1] < 20 || many[2] < 20 || many[3] < 20 {
		t.Error("too few of a kind", golds, many)
	}
}

// P5.12: the results of Because alone make Gold certain; without any one of them they do not.
func TestBecauseProves(t *testing.T) {
	r := rand.New(rand.NewSource(42))
	golds := 0
	for range 1500 {
		b, _ := randomTrue(r, 8)
		l, gold := becauseOf(t, b)
		if gold != medalsOf(t, b).Gold {
			t.Fatal(b, gold)
		}
		if gold == nobody {
			continue
		}
		golds++
		if m := medalsOf(t, only(b, l)); m.Gold != gold {
			t.Fatal(b, l, gold, m)
		}
		for i := range l {
			if m := medalsOf(t, only(b, without(l, i))); m.Gold != nobody {
				t.Fatal(b, l, gold, m)
			}
		}
	}
	if golds < 300 {
		t.Error("too few have gold", golds)
	}
}
