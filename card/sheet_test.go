package card_test

import (
	"math"
	"math/rand"
	"slices"
	"testing"

	"nock/api"
	"nock/card"
)

// P3.1: every foul of a card, at its limits.
func TestCheckCard(t *testing.T) {
	rule := func(arrows, slips int) func(c *api.CardSheet) {
		return func(c *api.CardSheet) { c.Rule = api.CardRule{Arrows: arrows, Slips: slips} }
	}
	marks := func(end, arrow int, marks ...int) func(c *api.CardSheet) {
		return func(c *api.CardSheet) { c.Ends[end].Marks[arrow] = marks }
	}
	told := func(marks ...int) func(c *api.CardSheet) {
		return func(c *api.CardSheet) { c.Ends[0].Told[1] = marks }
	}
	for what, x := range map[string]struct {
		change func(c *api.CardSheet)
		want   api.Foul
	}{
		"as it is":              {func(c *api.CardSheet) {}, api.Fair},
		"no ends":               {func(c *api.CardSheet) { c.Ends = nil }, api.Fair},
		"empty ends":            {func(c *api.CardSheet) { c.Ends = []api.CardEnd{} }, api.Fair},
		"no arrows":             {rule(0, 0), api.OffLimits},
		"arrows below":          {rule(-1, 0), api.OffLimits},
		"arrows above":          {rule(5, 0), api.OffLimits},
		"great arrows":          {rule(math.MaxInt, 0), api.OffLimits},
		"other arrows":          {rule(4, 1), api.BadCount},
		"fewer arrows":          {rule(2, 1), api.BadCount},
		"no slips":              {rule(3, 0), api.Fair},
		"most slips":            {rule(3, 3), api.Fair},
		"slips above":           {rule(3, 4), api.OffLimits},
		"slips below":           {rule(3, -1), api.OffLimits},
		"great slips":           {rule(3, math.MaxInt), api.OffLimits},
		"four ends":             {func(c *api.CardSheet) { c.Ends = append(c.Ends, c.Ends...) }, api.Fair},
		"five ends":             {func(c *api.CardSheet) { c.Ends = append(append(c.Ends, c.Ends...), c.Ends[0]) }, api.BadCount},
		"five empty ends":       {func(c *api.CardSheet) { c.Ends = make([]api.CardEnd, 5) }, api.BadCount},
		"an empty end":          {func(c *api.CardSheet) { c.Ends[1] = api.CardEnd{} }, api.BadCount},
		"two arrows":            {func(c *api.CardSheet) { c.Ends[1].Marks = c.Ends[1].Marks[:2] }, api.BadCount},
		"four arrows":           {func(c *api.CardSheet) { c.Ends[1].Marks = append(c.Ends[1].Marks, list(1)) }, api.BadCount},
		"no marks":              {marks(1, 1), api.BadCount},
		"all marks":             {marks(1, 1, allMarks()...), api.Fair},
		"thirteen marks":        {marks(1, 1, append(allMarks(), 12)...), api.BadCount},
		"thirteen times a mark": {marks(1, 1, make([]int, 13)...), api.BadCount},
		"least mark":            {marks(1, 2, 0), api.Fair},
		"greatest mark":         {marks(1, 2, 11), api.Fair},
		"mark below":            {marks(1, 2, -1), api.OffLimits},
		"mark above":            {marks(1, 2, 12), api.OffLimits},
		"second mark above":     {marks(1, 2, 3, 12), api.OffLimits},
		"great mark":            {marks(1, 2, math.MaxInt), api.OffLimits},
		"mark twice":            {marks(1, 2, 3, 3), api.OutOfOrder},
		"mark descends":         {marks(1, 2, 3, 4, 2), api.OutOfOrder},
		"no lists":              {func(c *api.CardSheet) { c.Ends[0].Told = [][]int{} }, api.Fair},
		"three lists":           {func(c *api.CardSheet) { c.Ends[0].Told = append(c.Ends[0].Told, list(0, 0, 0)) }, api.Fair},
		"four lists":            {func(c *api.CardSheet) { c.Ends[0].Told = append(c.Ends[0].Told, c.Ends[0].Told...) }, api.BadCount},
		"four empty lists":      {func(c *api.CardSheet) { c.Ends[0].Told = make([][]int, 4) }, api.BadCount},
		"an empty list":         {told(), api.BadCount},
		"a short list":          {told(9, 8), api.BadCount},
		"a long list":           {told(9, 8, 7, 6), api.BadCount},
		"told the greatest":     {told(11, 11, 11), api.Fair},
		"told the least":        {told(0, 0, 0), api.Fair},
		"told above":            {told(12, 9, 9), api.OffLimits},
		"told below":            {told(9, 9, -1), api.OffLimits},
		"told ascending":        {told(9, 8, 9), api.OutOfOrder},
		"told twice":            {told(9, 8, 8), api.Fair},
		"told the same":         {told(10, 9, 9), api.Fair},
	} {
		c := with(x.change)
		if f := card.CheckCard(c); f != x.want {
			t.Error(what, f)
		}
	}
}

// P3.1, R1: of several fouls the first one counts.
func TestCheckCardOrder(t *testing.T) {
	c := sheet(5, 6, make([]api.CardEnd, 5)...)
	first := &c.Ends[0]
	for i, x := range []struct {
		want   api.Foul
		repair func()
	}{
		{api.OffLimits, func() { c.Rule.Arrows = 2 }},
		{api.OffLimits, func() { c.Rule.Slips = 2 }},
		{api.BadCount, func() {
			c.Ends = c.Ends[:2]
			first.Marks, first.Told = lists(list(3, 2), list(), list(12)), make([][]int, 4)
		}},
		{api.BadCount, func() { first.Marks = lists(list(3, 2, 12), list()) }},
		{api.OutOfOrder, func() { first.Marks[0] = list(2, 12, 3) }},
		{api.OffLimits, func() { first.Marks[0] = list(2, 3) }},
		{api.BadCount, func() { first.Marks[1] = list(12, 3) }},
		{api.OffLimits, func() { first.Marks[1] = list(3) }},
		{api.BadCount, func() { first.Told = lists(list(2, 3), list(12), list(12, 13)) }},
		{api.OutOfOrder, func() { first.Told[0] = list(3, 12) }},
		{api.OffLimits, func() { first.Told[0] = list(3, 2) }},
		{api.BadCount, func() { first.Told[1] = list(3, 3) }},
		{api.OffLimits, func() { first.Told[2] = list(3, 3) }},
		{api.BadCount, func() { c.Ends[1].Marks = lists(list(0), list(12)) }},
		{api.OffLimits, func() { c.Ends[1].Marks[1] = list(11) }},
		{api.Fair, func() {}},
	} {
		if f := card.CheckCard(c); f != x.want {
			t.Fatal(i, f, c)
		}
		x.repair()
	}
}

// P3.3: what is left of an arrow's marks, and the fouls.
func TestLook(t *testing.T) {
	for i, x := range []struct {
		end, arrow int
		marks      []int
		want       []int
		f          api.Foul
	}{
		{0, 0, list(11), list(11), api.Fair},
		{0, 0, list(10), list(10), api.Fair},
		{0, 1, list(0, 9, 10), list(9), api.Fair},
		{0, 1, list(8, 9), list(8, 9), api.Fair},
		{0, 1, allMarks(), list(8, 9), api.Fair},
		{0, 2, list(8, 9, 10), list(9), api.Fair},
		{1, 0, list(3, 6), list(6), api.Fair},
		{0, 1, list(10), nil, api.Against},
		{0, 1, list(7, 10), nil, api.Against},
		{1, 2, list(0, 11), nil, api.Against},
		{0, 1, nil, nil, api.BadCount},
		{0, 1, list(), nil, api.BadCount},
		{0, 1, append(allMarks(), 12), nil, api.BadCount},
		{0, 1, list(12), nil, api.OffLimits},
		{0, 1, list(-1, 8), nil, api.OffLimits},
		{0, 1, list(9, 8, 12), nil, api.OutOfOrder},
		{0, 1, list(9, 12, 8), nil, api.OffLimits},
		{0, 1, list(9, 9), nil, api.OutOfOrder},
		{2, 0, nil, nil, api.Unknown},
		{-1, 0, list(9), nil, api.Unknown},
		{0, 3, list(9, 8), nil, api.Unknown},
		{0, -1, list(12), nil, api.Unknown},
		{math.MaxInt, math.MinInt, list(9), nil, api.Unknown},
	} {
		c, want := exampleCard(), api.CardSheet{}
		if x.f == api.Fair {
			want = exampleCard()
			want.Ends[x.end].Marks[x.arrow] = x.want
		}
		old := slices.Clone(x.marks)
		o, f := card.Look(c, x.end, x.arrow, x.marks)
		if f != x.f || !sameCard(o, want) {
			t.Error(i, o, f)
		}
		if !sameCard(c, exampleCard()) || !slices.Equal(x.marks, old) {
			t.Error(i, "an argument was changed", c, x.marks)
		}
	}
	bad := with(func(c *api.CardSheet) { c.Rule.Slips = 4 })
	if o, f := card.Look(bad, 9, 9, nil); f != api.OffLimits || !sameCard(o, api.CardSheet{}) {
		t.Error(o, f)
	}
}

// P3.3: a card whose end does not fit is a card: it can be looked at, and told more of.
func TestNewsOfMisfit(t *testing.T) {
	o, f := card.Look(exampleCard(), 0, 0, list(11))
	fair(t, f)
	if l := listsOf(t, o, 0); len(l) > 0 {
		t.Error(l)
	}
	if o, f = card.Look(o, 0, 1, list(8)); f != api.Fair || !sameLists(o.Ends[0].Marks, lists(list(11), list(8), list(9))) {
		t.Error(o, f)
	}
	if o, f = card.Tell(o, 0, list(1, 1, 1)); f != api.Fair || len(o.Ends[0].Told) != 3 {
		t.Error(o, f)
	}
}

// P3.3: which list is told, as the last one, and the fouls.
func TestTell(t *testing.T) {
	for i, x := range []struct {
		end  int
		list []int
		f    api.Foul
	}{
		{0, list(9, 9, 9), api.Fair},
		{0, list(10, 9, 9), api.Fair},
		{0, list(11, 11, 0), api.Fair},
		{1, list(10, 7, 6), api.Fair},
		{1, list(0, 0, 0), api.Fair},
		{0, list(9, 9), api.BadCount},
		{0, list(9, 9, 9, 9), api.BadCount},
		{0, nil, api.BadCount},
		{0, list(9, 10, 9), api.OutOfOrder},
		{0, list(9, 10, 12), api.OutOfOrder},
		{0, list(12, 9, 9), api.OffLimits},
		{1, list(12, 9, 13), api.OffLimits},
		{1, list(9, 9, -1), api.OffLimits},
		{2, list(12), api.Unknown},
		{-1, list(9, 9, 9), api.Unknown},
		{math.MinInt, nil, api.Unknown},
	} {
		c, want := exampleCard(), api.CardSheet{}
		if x.f == api.Fair {
			want = exampleCard()
			want.Ends[x.end].Told = append(want.Ends[x.end].Told, x.list)
		}
		old := slices.Clone(x.list)
		o, f := card.Tell(c, x.end, x.list)
		if f != x.f || !sameCard(o, want) {
			t.Error(i, o, f)
		}
		if !sameCard(c, exampleCard()) || !slices.Equal(x.list, old) {
			t.Error(i, "an argument was changed", c, x.list)
		}
	}
	full, f := card.Tell(exampleCard(), 0, list(9, 9, 9))
	fair(t, f)
	for _, told := range lists(list(9, 9, 9), list(9), list(12, 13, 14)) {
		if o, f := card.Tell(full, 0, told); f != api.BadCount || !sameCard(o, api.CardSheet{}) {
			t.Error(o, f)
		}
	}
	bad := with(func(c *api.CardSheet) { c.Ends[1].Marks[0] = list(7, 6) })
	if o, f := card.Tell(bad, 9, nil); f != api.OutOfOrder || !sameCard(o, api.CardSheet{}) {
		t.Error(o, f)
	}
}

// R4: a card with news shares no memory with the one before, nor with what was told.
func TestNewsShareNothing(t *testing.T) {
	c, marks, told := exampleCard(), list(10, 11), list(10, 9, 9)
	looked, f := card.Look(c, 0, 0, marks)
	fair(t, f)
	more, f := card.Tell(c, 0, told)
	fair(t, f)
	for _, o := range []api.CardSheet{looked, more} {
		for i := range o.Ends {
			for _, all := range [][][]int{o.Ends[i].Marks, o.Ends[i].Told} {
				for j := range all {
					all[j][0] = 99
					all[j] = append(all[j], 98)
				}
			}
			o.Ends[i] = api.CardEnd{}
		}
	}
	if !sameCard(c, exampleCard()) || !slices.Equal(marks, list(10, 11)) || !slices.Equal(told, list(10, 9, 9)) {
		t.Error("memory is shared", c, marks, told)
	}
	// A list that is told has room behind it often; the next one must not be written there.
	c.Ends[0].Told = append(make([][]int, 0, 9), c.Ends[0].Told...)
	one, _ := card.Tell(c, 0, list(1, 1, 1))
	two, _ := card.Tell(c, 0, list(2, 2, 2))
	if one.Ends[0].Told[2][0] != 1 || two.Ends[0].Told[2][0] != 2 {
		t.Error(one, two)
	}
}

// randomNews returns a card of which more is known: by a look, by a list, or by fewer slips.
func randomNews(r *rand.Rand, c api.CardSheet) (o api.CardSheet, f api.Foul) {
	end, arrow := r.Intn(len(c.Ends)), r.Intn(c.Rule.Arrows)
	switch r.Intn(3) {
	case 0:
		some := list(randomMark(r), randomMark(r))
		slices.Sort(some)
		return card.Look(c, end, arrow, slices.Compact(some))
	case 1:
		all := truths(c, end)
		return card.Tell(c, end, randomTold(r, all[r.Intn(len(all))]))
	}
	o = copyCard(c)
	o.Rule.Slips = max(o.Rule.Slips-1, 0)
	return o, api.Fair
}

// P3.7, P3: news never add a list, a mark, a total or a doubt, and never make the official total less or the greatest one more.
func TestNewsNarrow(t *testing.T) {
	r := rand.New(rand.NewSource(31))
	fitted, changed := 0, 0
	for range 3000 {
		c := randomFit(r)
		if len(c.Ends) == 0 {
			continue
		}
		o, f := randomNews(r, c)
		if f == api.Against || f == api.BadCount {
			continue
		}
		fair(t, f)
		for i := range c.Ends {
			before, after := listsOf(t, c, i), listsOf(t, o, i)
			for _, some := range after {
				if !hasList(before, some) {
					t.Fatal(c, o, i, before, after)
				}
			}
			if !isPart(totalsOf(t, o, i), totalsOf(t, c, i)) || slipsOf(t, o, i) < slipsOf(t, c, i) {
				t.Fatal(c, o, i)
			}
			for arrow := range c.Rule.Arrows {
				if !isPart(marksOf(t, o, i, arrow), marksOf(t, c, i, arrow)) {
					t.Fatal(c, o, i, arrow)
				}
			}
		}
		if !isPart(doubtsOf(t, o), doubtsOf(t, c)) {
			t.Fatal(c, o)
		}
		all, f := card.All(o)
		if f == api.Against {
			continue
		}
		fair(t, f)
		fitted++
		before, after := official(t, c), official(t, o)
		greatest := slices.MaxFunc(allOf(t, c), byTotal)
		if byTotal(after, before) < 0 || byTotal(slices.MaxFunc(all, byTotal), greatest) > 0 || !isPart(all, allOf(t, c)) {
			t.Fatal(c, o, before, after)
		}
		if before != after {
			changed++
		}
		staysCertain(t, c, o)
	}
	if fitted < 500 || changed < 50 {
		t.Error("too few cards", fitted, changed)
	}
}

func official(t *testing.T, c api.CardSheet) api.FaceTotal {
	t.Helper()
	x, f := card.Official(c)
	fair(t, f)
	return x
}

// staysCertain stops a test if a list was surely wrong or surely right, or a card surely beat another one, and is not so any more.
func staysCertain(t *testing.T, before, after api.CardSheet) {
	t.Helper()
	for i, e := range before.Ends {
		for told := range e.Told {
			a, f := card.Wrong(before, i, told)
			fair(t, f)
			b, f := card.Wrong(after, i, told)
			fair(t, f)
			if a != api.Maybe && a != b {
				t.Fatal(before, after, i, told, a, b)
			}
		}
	}
	for _, other := range []api.CardSheet{sum(official(t, before).Value), sum(official(t, after).Value), sum(20)} {
		a, f := card.Beats(before, other)
		fair(t, f)
		b, f := card.Beats(after, other)
		fair(t, f)
		if a != api.Maybe && a != b {
			t.Fatal(before, after, other, a, b)
		}
	}
}

// sum returns a card with a value, whose marks are known.
func sum(value int) api.CardSheet {
	c := sheet(api.MaxCardArrows, 0)
	for range api.MaxCardEnds {
		var marks [][]int
		for range api.MaxCardArrows {
			mark := min(value, 10)
			marks = append(marks, list(mark))
			value -= mark
		}
		c.Ends = append(c.Ends, end(marks))
	}
	return c
}
