package round_test

import (
	"math"
	"math/rand"
	"slices"
	"testing"

	"nock/api"
	"nock/round"
)

// answer is what Above returns.
type answer struct {
	why api.RoundWhy
	is  bool
	f   api.Foul
}

func above(r api.Round, one, two int) answer {
	why, is, f := round.Above(r, one, two)
	return answer{why, is, f}
}

// P4.2: by what two archers differ, and which one is above.
func TestAbove(t *testing.T) {
	shot := func(a, b []int) func(r *api.Round) {
		return func(r *api.Round) {
			r.Archers[cam].Arrows, r.Archers[eve].Arrows = a, b
			r.Archers[cam].Offs, r.Archers[eve].Offs = nil, nil
		}
	}
	offs := func(a, b []api.RoundOff) func(r *api.Round) {
		return func(r *api.Round) { r.Archers[cam].Offs, r.Archers[eve].Offs = a, b }
	}
	three := []api.RoundOff{off(9, 5), off(8, 5), off(7, 5)}
	for what, x := range map[string]struct {
		change func(r *api.Round)
		why    api.RoundWhy
		cam    bool
	}{
		"as it is":                {func(r *api.Round) {}, api.RoundFar, false},
		"points":                  {shot(list(9, 8), list(10, 6)), api.RoundPoints, true},
		"points of more arrows":   {shot(list(10), list(6, 5)), api.RoundPoints, false},
		"tens":                    {shot(list(10, 8), list(9, 9)), api.RoundTens, true},
		"an inner is a ten":       {shot(list(9, 9), list(11, 8)), api.RoundTens, false},
		"tens before inners":      {shot(list(11, 5, 5), list(10, 10, 0)), api.RoundTens, false},
		"inners":                  {shot(list(10, 8), list(8, 11)), api.RoundInners, false},
		"more inners":             {shot(list(11, 11, 7), list(11, 10, 7)), api.RoundInners, true},
		"the same":                {shot(list(10, 8), list(8, 10)), api.RoundEqual, false},
		"the same but arrows":     {shot(list(10, 8), list(8, 10, 0)), api.RoundEqual, false},
		"nothing":                 {shot(nil, nil), api.RoundEqual, false},
		"no shoot-off":            {offs(nil, nil), api.RoundEqual, false},
		"one shoot-off":           {offs(three, nil), api.RoundEqual, false},
		"number":                  {offs([]api.RoundOff{off(10, 9)}, []api.RoundOff{off(9, 0)}), api.RoundNumber, true},
		"an inner of a shoot-off": {offs([]api.RoundOff{off(10, 0)}, []api.RoundOff{off(11, 9)}), api.RoundNumber, false},
		"far":                     {offs([]api.RoundOff{off(9, 3)}, []api.RoundOff{off(9, 4)}), api.RoundFar, true},
		"second number":           {offs([]api.RoundOff{off(9, 4), off(8, 0)}, []api.RoundOff{off(9, 4), off(9, 9)}), api.RoundNumber, false},
		"second far":              {offs([]api.RoundOff{off(9, 4), off(8, 7)}, []api.RoundOff{off(9, 4), off(8, 8)}), api.RoundFar, true},
		"far before number":       {offs([]api.RoundOff{off(9, 4), off(8, 0)}, []api.RoundOff{off(9, 5), off(10, 0)}), api.RoundFar, true},
		"last far":                {offs(three, []api.RoundOff{off(9, 5), off(8, 5), off(7, 6)}), api.RoundFar, true},
		"last number":             {offs(three, []api.RoundOff{off(9, 5), off(8, 5), off(8, 6)}), api.RoundNumber, false},
		"the same shoot-off":      {offs(three, slices.Clone(three)), api.RoundEqual, false},
		"a longer shoot-off":      {offs(three, three[:2]), api.RoundEqual, false},
		"out":                     {func(r *api.Round) { r.Archers[cam].Out, r.Archers[cam].Offs = true, nil }, api.RoundOut, false},
		"the other one out":       {func(r *api.Round) { r.Archers[eve].Out, r.Archers[eve].Offs = true, nil }, api.RoundOut, true},
		"out with more points": {func(r *api.Round) {
			r.Archers[cam].Arrows, r.Archers[cam].Offs = list(0), nil
			r.Archers[eve].Out, r.Archers[eve].Offs = true, nil
		}, api.RoundOut, true},
		"both out": {func(r *api.Round) {
			r.Archers[cam] = api.RoundArcher{Name: "cam", Out: true, Arrows: list(9, 8)}
			r.Archers[eve] = api.RoundArcher{Name: "eve", Out: true, Arrows: list(10, 8)}
		}, api.RoundPoints, false},
		"both out, the same": {func(r *api.Round) {
			r.Archers[cam] = api.RoundArcher{Name: "cam", Out: true, Arrows: list(9, 8)}
			r.Archers[eve] = api.RoundArcher{Name: "eve", Out: true, Arrows: list(8, 9)}
		}, api.RoundEqual, false},
		"shoot-offs of another sum": {func(r *api.Round) { r.Archers[cam].Arrows[0] = 10 }, api.RoundPoints, true},
	} {
		r := with(x.change)
		if a := above(r, cam, eve); a != (answer{x.why, x.cam, api.Fair}) {
			t.Error(what, a)
		}
		if a := above(r, eve, cam); a != (answer{x.why, !x.cam && x.why != api.RoundEqual, api.Fair}) {
			t.Error(what, "the other way", a)
		}
	}
}

// P4.2: the fouls of two archers.
func TestAboveFouls(t *testing.T) {
	for i, x := range []struct {
		one, two int
		want     answer
	}{
		{eve, cam, answer{api.RoundFar, true, api.Fair}},
		{cam, ann, answer{api.RoundPoints, true, api.Fair}},
		{ann, ann, answer{}},
		{dot, dot, answer{}},
		{ann, dot, answer{f: api.Against}},
		{dot, ann, answer{f: api.Against}},
		{ann, 5, answer{f: api.Unknown}},
		{5, ann, answer{f: api.Unknown}},
		{-1, dot, answer{f: api.Unknown}},
		{dot, -1, answer{f: api.Unknown}},
		{math.MaxInt, math.MinInt, answer{f: api.Unknown}},
	} {
		if a := above(example(), x.one, x.two); a != x.want {
			t.Error(i, a)
		}
	}
	if a := above(with(func(r *api.Round) { r.Archers[eve].Class = 4 }), -1, -1); a != (answer{f: api.OffLimits}) {
		t.Error(a)
	}
}

// P4.2: the ranks of a class, and those that have the same one.
func TestRanksAndTies(t *testing.T) {
	for what, x := range map[string]struct {
		r     api.Round
		class int
		ranks []int
		ties  [][]int
		f     api.Foul
	}{
		"as it is":     {example(), 0, list(3, 4, 2, 0, 1), nil, api.Fair},
		"class of one": {example(), 1, list(0, 0, 0, 1, 0), nil, api.Fair},
		"empty class":  {example(), 3, list(0, 0, 0, 0, 0), nil, api.Fair},
		"no archers":   {short(1, 1), 0, nil, nil, api.Fair},
		"no shoot-off": {with(func(r *api.Round) { r.Archers[cam].Offs = nil }), 0, list(3, 4, 1, 0, 1), lists(list(cam, eve)), api.Fair},
		"ann out":      {with(func(r *api.Round) { r.Archers[ann].Out = true }), 0, list(4, 3, 2, 0, 1), nil, api.Fair},
		"both out":     {with(func(r *api.Round) { r.Archers[ann].Out, r.Archers[ben].Out = true, true }), 0, list(3, 4, 2, 0, 1), nil, api.Fair},
		"one class":    {with(func(r *api.Round) { r.Archers[dot].Class = 0 }), 0, list(3, 4, 2, 5, 1), nil, api.Fair},
		"all the same": {short(2, 10, list(9), list(9), list(9)), 0, list(1, 1, 1), lists(list(0, 1, 2)), api.Fair},
		"nothing shot": {great(), 0, list(1, 1, 1, 1, 1, 1), lists(list(0, 1, 2, 3, 4, 5)), api.Fair},
		"last ones":    {short(1, 10, list(8), list(9), list(8)), 0, list(2, 1, 2), lists(list(0, 2)), api.Fair},
		"first ones":   {short(1, 10, list(9), list(8), list(9)), 0, list(1, 3, 1), lists(list(0, 2)), api.Fair},
		"two ties":     {short(1, 10, list(8), list(9), list(9), list(8)), 0, list(3, 1, 1, 3), lists(list(1, 2), list(0, 3)), api.Fair},
		"tie between":  {short(1, 10, list(7), list(8), list(9), list(8)), 0, list(4, 2, 1, 2), lists(list(1, 3)), api.Fair},
		"three ties":   {short(1, 10, list(7), list(8), list(9), list(8), list(7), list(9)), 0, list(5, 3, 1, 3, 5, 1), lists(list(2, 5), list(1, 3), list(0, 4)), api.Fair},
		"class above":  {example(), 4, nil, nil, api.OffLimits},
		"class below":  {example(), -1, nil, nil, api.OffLimits},
		"great class":  {example(), math.MaxInt, nil, nil, api.OffLimits},
		"foul":         {with(func(r *api.Round) { r.Archers[eve].Name = "" }), 4, nil, nil, api.BadName},
		"no legs":      {api.Round{}, -1, nil, nil, api.BadCount},
	} {
		if l, f := round.Ranks(x.r, x.class); !slices.Equal(l, x.ranks) || f != x.f {
			t.Error(what, l, f)
		}
		if l, f := round.Ties(x.r, x.class); !sameLists(l, x.ties) || f != x.f {
			t.Error(what, l, f)
		}
	}
}

// P4.2: who has a shorter shoot-off, which others have begun with, is with each of these, though they are not with each other.
func TestShortShootOff(t *testing.T) {
	r := short(1, 10, list(9), list(9), list(9), list(9))
	r.Archers[0].Offs = []api.RoundOff{off(9, 4), off(9, 1)}
	r.Archers[1].Offs = []api.RoundOff{off(9, 4)}
	r.Archers[2].Offs = []api.RoundOff{off(9, 4), off(10, 1)}
	if l := ranksOf(t, r, 0); !slices.Equal(l, list(2, 1, 1, 1)) {
		t.Error(l)
	}
	if l, f := round.Ties(r, 0); !sameLists(l, lists(list(1, 2, 3))) || f != api.Fair {
		t.Error(l, f)
	}
	r.Archers[3].Offs = []api.RoundOff{off(9, 5), off(11, 0)}
	if l := ranksOf(t, r, 0); !slices.Equal(l, list(2, 1, 1, 4)) {
		t.Error(l)
	}
}

// P4.2: the ranks by the first arrows, whoever is out now, and without shoot-offs.
func TestAfter(t *testing.T) {
	annOut := with(func(r *api.Round) { r.Archers[ann].Out = true })
	for what, x := range map[string]struct {
		r        api.Round
		class, n int
		want     []int
		f        api.Foul
	}{
		"nothing":         {example(), 0, 0, list(1, 1, 1, 0, 1), api.Fair},
		"one":             {example(), 0, 1, list(2, 1, 3, 0, 3), api.Fair},
		"two":             {example(), 0, 2, list(2, 1, 3, 0, 3), api.Fair},
		"three":           {example(), 0, 3, list(1, 2, 3, 0, 3), api.Fair},
		"five":            {example(), 0, 5, list(1, 4, 2, 0, 2), api.Fair},
		"all":             {example(), 0, 7, list(3, 4, 1, 0, 1), api.Fair},
		"out":             {annOut, 0, 3, list(1, 2, 3, 0, 3), api.Fair},
		"out in the end":  {annOut, 0, 7, list(3, 4, 1, 0, 1), api.Fair},
		"class of one":    {example(), 1, 3, list(0, 0, 0, 1, 0), api.Fair},
		"empty class":     {example(), 2, 3, list(0, 0, 0, 0, 0), api.Fair},
		"too many":        {example(), 0, 8, nil, api.OffLimits},
		"below":           {example(), 0, -1, nil, api.OffLimits},
		"great":           {example(), 0, math.MaxInt, nil, api.OffLimits},
		"class above":     {example(), 4, 3, nil, api.OffLimits},
		"class below":     {example(), -1, 3, nil, api.OffLimits},
		"no legs":         {api.Round{}, 4, 8, nil, api.BadCount},
		"the whole round": {great(), 0, 60, list(1, 1, 1, 1, 1, 1), api.Fair},
		"beyond":          {great(), 0, 61, nil, api.OffLimits},
	} {
		if l, f := round.After(x.r, x.class, x.n); !slices.Equal(l, x.want) || f != x.f {
			t.Error(what, l, f)
		}
	}
}

// P4.2, P4.8: ranks, ties and who is above are those of the chapter's words, for random rounds; being above passes on.
func TestRanksByWords(t *testing.T) {
	r := rand.New(rand.NewSource(12))
	whys := make(map[api.RoundWhy]int)
	for range 2500 {
		o := randomRound(r, 6, 3)
		for class := range api.MaxRoundClass + 1 {
			checkClass(t, o, class)
		}
		for one, a := range o.Archers {
			for two, b := range o.Archers {
				want := answer{f: api.Against}
				if a.Class == b.Class {
					why, is := differ(a, b)
					want = answer{why, is, api.Fair}
					whys[why]++
				}
				if got := above(o, one, two); got != want {
					t.Fatal(o, one, two, got, want)
				}
				checkPassesOn(t, o, one, two)
			}
		}
		n := r.Intn(len(bests(o)) + 1)
		first := copyRound(o)
		for i := range first.Archers {
			first.Archers[i].Out = false
		}
		first = cutTo(first, n)
		for i := range first.Archers {
			first.Archers[i].Offs = nil
		}
		if l, f := round.After(o, 0, n); !slices.Equal(l, ranksOf(t, first, 0)) || f != api.Fair {
			t.Fatal(o, n, l, f)
		}
	}
	for why := api.RoundEqual; why <= api.RoundFar; why++ {
		if whys[why] < 50 {
			t.Error("too few differ by", why, whys[why])
		}
	}
}

// checkClass stops a test if ranks or ties of a class are not those of the chapter's words.
func checkClass(t *testing.T, o api.Round, class int) {
	t.Helper()
	want, same := make([]int, len(o.Archers)), make(map[int][]int)
	for i, a := range o.Archers {
		if a.Class == class {
			want[i] = rankOf(o, i)
			same[want[i]] = append(same[want[i]], i)
		}
	}
	if l := ranksOf(t, o, class); !slices.Equal(l, want) {
		t.Fatal(o, class, l, want)
	}
	var ties [][]int
	for rank := range len(o.Archers) + 1 {
		if len(same[rank]) > 1 {
			ties = append(ties, same[rank])
		}
	}
	if l, f := round.Ties(o, class); !sameLists(l, ties) || f != api.Fair {
		t.Fatal(o, class, l, f, ties)
	}
}

// checkPassesOn stops a test if one who is above another one does not have the better rank, is not above all who are below that one, or is below it, too.
func checkPassesOn(t *testing.T, o api.Round, one, two int) {
	t.Helper()
	if !above(o, one, two).is {
		return
	}
	ranks := ranksOf(t, o, o.Archers[one].Class)
	if above(o, two, one).is || ranks[one] >= ranks[two] {
		t.Fatal(o, one, two, ranks)
	}
	for three := range o.Archers {
		if above(o, two, three).is && !above(o, one, three).is {
			t.Fatal(o, one, two, three)
		}
	}
}

// reversed returns a round whose archers stand the other way round.
func reversed(o api.Round) api.Round {
	o = copyRound(o)
	slices.Reverse(o.Archers)
	return o
}

// P4.8, P5: the order of archers changes no more than their indexes.
func TestOrderOfArchers(t *testing.T) {
	r := rand.New(rand.NewSource(13))
	for range 500 {
		o := randomRound(r, 6, 3)
		other, last := reversed(o), len(o.Archers)-1
		for class := range 2 {
			ranks := ranksOf(t, other, class)
			slices.Reverse(ranks)
			if !slices.Equal(ranks, ranksOf(t, o, class)) {
				t.Fatal(o, class, ranks)
			}
			ties, f := round.Ties(o, class)
			fair(t, f)
			for _, tie := range ties {
				slices.Reverse(tie)
				for i := range tie {
					tie[i] = last - tie[i]
				}
			}
			if l, f := round.Ties(other, class); !sameLists(l, ties) || f != api.Fair {
				t.Fatal(o, class, l, ties, f)
			}
		}
		for i := range o.Archers {
			checkMirrored(t, o, other, i, 1+r.Intn(4))
		}
	}
}

// checkMirrored stops a test if the chances of an archer are others where the archers stand the other way round.
func checkMirrored(t *testing.T, o, other api.Round, archer, k int) {
	t.Helper()
	last := len(o.Archers) - 1
	if amongOf(t, o, archer, k) != amongOf(t, other, last-archer, k) {
		t.Fatal(o, archer, k)
	}
	threats := threatsOf(t, other, last-archer)
	slices.Reverse(threats)
	for i := range threats {
		threats[i] = last - threats[i]
	}
	if !slices.Equal(threats, threatsOf(t, o, archer)) {
		t.Fatal(o, archer, threats)
	}
	points, found, f := round.Needs(o, archer, k)
	if p, also, g := round.Needs(other, last-archer, k); p != points || also != found || g != f {
		t.Fatal(o, archer, k, p, also, g)
	}
	class := o.Archers[archer].Class
	n, found, f := round.Settled(o, class, k)
	if m, also, g := round.Settled(other, class, k); m != n || also != found || g != f {
		t.Fatal(o, class, k, m, also, g)
	}
}

// P4.7: a greater number never makes an archer's rank worse, nor another one's better.
func TestGreaterNumber(t *testing.T) {
	r := rand.New(rand.NewSource(14))
	better := 0
	for range 4000 {
		o := randomRound(r, 6, 3)
		if len(o.Archers) == 0 {
			continue
		}
		i := r.Intn(len(o.Archers))
		a := o.Archers[i]
		if len(a.Arrows) == 0 {
			continue
		}
		more, n := copyRound(o), r.Intn(len(a.Arrows))
		more.Archers[i].Arrows[n] = a.Arrows[n] + r.Intn(bests(o)[n]-a.Arrows[n]+1)
		before, after := ranksOf(t, o, a.Class), ranksOf(t, more, a.Class)
		for j := range o.Archers {
			if j == i && after[j] > before[j] || j != i && after[j] < before[j] {
				t.Fatal(o, more, before, after)
			}
		}
		if after[i] < before[i] {
			better++
		}
	}
	if better < 100 {
		t.Error("too few ranks became better", better)
	}
}

// P4.10: who withdraws never makes the rank of another one worse.
func TestWithdrawRanks(t *testing.T) {
	r := rand.New(rand.NewSource(15))
	better := 0
	for range 2000 {
		o := randomRound(r, 6, 3)
		for i, a := range o.Archers {
			less, f := round.Withdraw(o, i)
			if f != api.Fair {
				continue
			}
			before, after := ranksOf(t, o, a.Class), ranksOf(t, less, a.Class)
			for j := range o.Archers {
				if j != i && after[j] > before[j] {
					t.Fatal(o, i, before, after)
				}
				if j != i && after[j] < before[j] {
					better++
				}
			}
		}
	}
	if better < 500 {
		t.Error("too few ranks became better", better)
	}
}
