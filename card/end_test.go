package card_test

import (
	"math"
	"math/rand"
	"slices"
	"testing"

	"nock/api"
	"nock/card"
)

// P3.1: the lists and totals of ends; P3.3: the slips that they need.
func TestLists(t *testing.T) {
	told := func(told ...[]int) func(c *api.CardSheet) {
		return func(c *api.CardSheet) { c.Ends[0].Told = told }
	}
	slips := func(n int) func(c *api.CardSheet) {
		return func(c *api.CardSheet) { c.Rule.Slips = n }
	}
	for what, x := range map[string]struct {
		change func(c *api.CardSheet)
		end    int
		lists  [][]int
		totals []api.FaceTotal
		slips  int
	}{
		"as it is":       {func(c *api.CardSheet) {}, 0, lists(list(10, 9, 8), list(10, 9, 9)), plain(27, 28), 1},
		"nothing told":   {func(c *api.CardSheet) {}, 1, lists(list(10, 6, 6), list(10, 7, 6), list(10, 7, 7)), plain(22, 23, 24), 0},
		"no slips":       {slips(0), 0, nil, nil, 1},
		"two slips":      {slips(2), 0, lists(list(10, 9, 8), list(10, 9, 9), list(11, 9, 8), list(11, 9, 9)), []api.FaceTotal{total(27, 0), total(27, 1), total(28, 0), total(28, 1)}, 1},
		"one told":       {told(list(10, 9, 9)), 0, lists(list(10, 9, 8), list(10, 9, 9), list(11, 9, 9)), []api.FaceTotal{total(27, 0), total(28, 0), total(28, 1)}, 0},
		"told nonsense":  {told(list(5, 5, 5)), 0, nil, nil, 3},
		"told all nines": {told(list(9, 9, 9)), 0, lists(list(10, 9, 9), list(11, 9, 9)), []api.FaceTotal{total(28, 0), total(28, 1)}, 1},
		"told far apart": {told(list(10, 9, 9), list(11, 10, 8)), 0, nil, nil, 2},
		"told thrice":    {told(list(10, 9, 9), list(10, 9, 8), list(11, 9, 9)), 0, lists(list(10, 9, 9)), plain(28), 1},
		"a miss":         {func(c *api.CardSheet) { c.Ends[0].Marks[2] = list(0, 9) }, 0, lists(list(10, 9, 0), list(10, 9, 8), list(10, 9, 9)), plain(19, 27, 28), 1},
	} {
		c := with(x.change)
		if l := listsOf(t, c, x.end); !sameLists(l, x.lists) {
			t.Error(what, l)
		}
		if l := totalsOf(t, c, x.end); !slices.Equal(l, x.totals) {
			t.Error(what, l)
		}
		if n := slipsOf(t, c, x.end); n != x.slips {
			t.Error(what, n)
		}
	}
}

// P3.1: places are those of the list with the highest first: one mark that is told too high, and so too early, moves all others.
func TestPlaces(t *testing.T) {
	for i, x := range []struct {
		told  []int
		slips int
	}{
		{list(9, 8, 7, 6), 0},
		{list(10, 8, 7, 6), 1},
		{list(9, 8, 7, 0), 1},
		{list(10, 9, 8, 7), 4},
		{list(9, 9, 8, 7), 3},
		{list(9, 8, 8, 7), 2},
		{list(8, 7, 6, 5), 4},
		{list(8, 8, 7, 6), 1},
		{list(11, 9, 7, 6), 2},
	} {
		c := sheet(4, 4, end(lists(list(7), list(9), list(6), list(8)), x.told))
		if n := slipsOf(t, c, 0); n != x.slips {
			t.Error(i, n)
		}
	}
}

// P3.1: the marks that truths give an arrow.
func TestMarks(t *testing.T) {
	for i, x := range []struct {
		c          api.CardSheet
		end, arrow int
		want       []int
		f          api.Foul
	}{
		{exampleCard(), 0, 0, list(10), api.Fair},
		{exampleCard(), 0, 1, list(8, 9), api.Fair},
		{exampleCard(), 0, 2, list(9), api.Fair},
		{exampleCard(), 1, 0, list(6, 7), api.Fair},
		{exampleCard(), 1, 1, list(6, 7), api.Fair},
		{exampleCard(), 1, 2, list(10), api.Fair},
		{exampleCard(), 2, 0, nil, api.Unknown},
		{exampleCard(), -1, 0, nil, api.Unknown},
		{exampleCard(), 0, 3, nil, api.Unknown},
		{exampleCard(), 0, -1, nil, api.Unknown},
		{exampleCard(), math.MaxInt, math.MaxInt, nil, api.Unknown},
		{misfit(), 0, 0, nil, api.Fair},
		{misfit(), 1, 0, list(6, 7), api.Fair},
		{greatCard(), 3, 3, allMarks(), api.Fair},
		{with(func(c *api.CardSheet) { c.Rule.Arrows = 2 }), 9, 9, nil, api.BadCount},
	} {
		if l, f := card.Marks(x.c, x.end, x.arrow); !slices.Equal(l, x.want) || f != x.f {
			t.Error(i, l, f)
		}
	}
}

// P3.1, P3.3: the fouls of what is asked of an end.
func TestUnknownEnd(t *testing.T) {
	bad := with(func(c *api.CardSheet) { c.Ends[0].Told[0] = list(9, 10, 9) })
	for _, end := range []int{-1, 2, math.MinInt, math.MaxInt} {
		for c, want := range map[*api.CardSheet]api.Foul{new(exampleCard()): api.Unknown, new(misfit()): api.Unknown, &bad: api.OutOfOrder} {
			l, f := card.Lists(*c, end)
			totals, g := card.Totals(*c, end)
			n, h := card.Slips(*c, end)
			decide, i := card.Decide(*c, end)
			wrong, j := card.Wrong(*c, end, 0)
			if f != want || g != want || h != want || i != want || j != want {
				t.Error(end, f, g, h, i, j)
			}
			if len(l) > 0 || len(totals) > 0 || n != 0 || len(decide) > 0 || wrong != api.Maybe {
				t.Error(end, l, totals, n, decide, wrong)
			}
		}
	}
}

// P3.3: whether a list is wrong.
func TestWrong(t *testing.T) {
	for i, x := range []struct {
		c         api.CardSheet
		end, told int
		want      api.Sure
		f         api.Foul
	}{
		{exampleCard(), 0, 0, api.Maybe, api.Fair},
		{exampleCard(), 0, 1, api.Maybe, api.Fair},
		{exampleCard(), 0, 2, api.Maybe, api.Unknown},
		{exampleCard(), 0, -1, api.Maybe, api.Unknown},
		{exampleCard(), 1, 0, api.Maybe, api.Unknown},
		{exampleCard(), 2, 0, api.Maybe, api.Unknown},
		{exampleCard(), -1, 0, api.Maybe, api.Unknown},
		{exampleCard(), 0, math.MinInt, api.Maybe, api.Unknown},
		{misfit(), 0, 0, api.Maybe, api.Against},
		{misfit(), 0, 2, api.Maybe, api.Unknown},
		{misfit(), 1, 0, api.Maybe, api.Unknown},
		{with(func(c *api.CardSheet) { c.Ends[0].Marks[1] = list(9) }), 0, 0, api.No, api.Fair},
		{with(func(c *api.CardSheet) { c.Ends[0].Marks[1] = list(9) }), 0, 1, api.Yes, api.Fair},
		{with(func(c *api.CardSheet) { c.Ends[0].Told[1] = list(9, 9, 9) }), 0, 1, api.Yes, api.Fair},
		{with(func(c *api.CardSheet) { c.Ends[0].Told[1] = list(9, 9, 9) }), 0, 0, api.Maybe, api.Fair},
		// Another end that does not fit does not matter.
		{with(func(c *api.CardSheet) { c.Ends[1].Told = lists(list(0, 0, 0)) }), 0, 0, api.Maybe, api.Fair},
		{with(func(c *api.CardSheet) { c.Ends[1].Told = lists(list(0, 0, 0)) }), 1, 0, api.Maybe, api.Against},
		{with(func(c *api.CardSheet) { c.Rule.Arrows = 0 }), 9, 9, api.Maybe, api.OffLimits},
	} {
		if s, f := card.Wrong(x.c, x.end, x.told); s != x.want || f != x.f {
			t.Error(i, s, f)
		}
	}
}

// P3.1, P3.6, P2: all that is said of an end is that of its truths.
func TestEndsOfTruths(t *testing.T) {
	r := rand.New(rand.NewSource(11))
	misfits := 0
	for range 1500 {
		c := randomCard(r)
		for i := range c.Ends {
			var all [][]int
			marks := make([][]int, c.Rule.Arrows)
			for _, truth := range truths(c, i) {
				all = append(all, highestFirst(truth))
				for arrow, mark := range truth {
					marks[arrow] = append(marks[arrow], mark)
				}
			}
			if len(all) == 0 {
				misfits++
			}
			slices.SortFunc(all, slices.Compare[[]int])
			all = slices.CompactFunc(all, slices.Equal[[]int])
			if l := listsOf(t, c, i); !sameLists(l, all) {
				t.Fatal(c, i, l, all)
			}
			if l, want := totalsOf(t, c, i), totalsIn(c, i); !slices.Equal(l, want) {
				t.Fatal(c, i, l, want)
			}
			for arrow := range marks {
				slices.Sort(marks[arrow])
				if l := marksOf(t, c, i, arrow); !slices.Equal(l, slices.Compact(marks[arrow])) {
					t.Fatal(c, i, arrow, l, marks)
				}
			}
			checkWrong(t, c, i, all)
		}
	}
	if misfits < 200 {
		t.Error("too few ends that do not fit", misfits)
	}
}

// checkWrong compares what Wrong says with the lists of all truths; P3.9: a list that is surely wrong is told by no truth.
func checkWrong(t *testing.T, c api.CardSheet, end int, all [][]int) {
	t.Helper()
	for i, told := range c.Ends[end].Told {
		s, f := card.Wrong(c, end, i)
		if len(all) == 0 {
			if s != api.Maybe || f != api.Against {
				t.Fatal(c, end, i, s, f)
			}
			continue
		}
		right := hasList(all, told)
		if want := sureOf(!right || len(all) > 1, right); s != want || f != api.Fair {
			t.Fatal(c, end, i, s, f, want)
		}
	}
}

// P3.3, P3.9: an end fits just if it is allowed as many slips as Slips says.
func TestSlipsFit(t *testing.T) {
	r := rand.New(rand.NewSource(12))
	for range 1000 {
		c := randomCard(r)
		for i := range c.Ends {
			least := slipsOf(t, c, i)
			want := c.Rule.Arrows
			for _, marks := range seen(c.Ends[i]) {
				want = min(want, slipsFor(c.Ends[i], marks))
			}
			if least != want {
				t.Fatal(c, i, least, want)
			}
			for slips := range c.Rule.Arrows + 1 {
				c.Rule.Slips = slips
				if l := listsOf(t, c, i); (len(l) > 0) != (slips >= least) {
					t.Fatal(c, i, slips, least, l)
				}
				if n := slipsOf(t, c, i); n != least {
					t.Fatal(c, i, slips, least, n)
				}
			}
		}
	}
}

// P3.6, P5: the order of arrows, of lists that are told and of ends changes no more than their indexes.
func TestAnyOrder(t *testing.T) {
	r := rand.New(rand.NewSource(13))
	for range 800 {
		c := randomCard(r)
		o := copyCard(c)
		ends, arrows := r.Perm(len(c.Ends)), r.Perm(c.Rule.Arrows)
		for to, from := range ends {
			o.Ends[to] = end(make([][]int, c.Rule.Arrows), copyLists(c.Ends[from].Told)...)
			slices.Reverse(o.Ends[to].Told)
			for toArrow, fromArrow := range arrows {
				o.Ends[to].Marks[toArrow] = slices.Clone(c.Ends[from].Marks[fromArrow])
			}
		}
		for to, from := range ends {
			if !sameLists(listsOf(t, c, from), listsOf(t, o, to)) || !slices.Equal(totalsOf(t, c, from), totalsOf(t, o, to)) {
				t.Fatal(c, o, from, to)
			}
			if slipsOf(t, c, from) != slipsOf(t, o, to) {
				t.Fatal(c, o, from, to)
			}
			for toArrow, fromArrow := range arrows {
				if !slices.Equal(marksOf(t, c, from, fromArrow), marksOf(t, o, to, toArrow)) {
					t.Fatal(c, o, from, to)
				}
				doubts := slices.Contains(doubtsOf(t, c), place(from, fromArrow))
				if doubts != slices.Contains(doubtsOf(t, o), place(to, toArrow)) {
					t.Fatal(c, o, from, to)
				}
			}
			for i := range c.Ends[from].Told {
				a, f := card.Wrong(c, from, i)
				b, g := card.Wrong(o, to, len(c.Ends[from].Told)-1-i)
				if a != b || f != g {
					t.Fatal(c, o, from, to, i, a, b, f, g)
				}
			}
			a, f := card.Decide(c, from)
			b, g := card.Decide(o, to)
			if len(a) != len(b) || f != g {
				t.Fatal(c, o, from, to, a, b, f, g)
			}
		}
		a, f := card.All(c)
		b, g := card.All(o)
		if !slices.Equal(a, b) || f != g {
			t.Fatal(c, o, a, b, f, g)
		}
	}
}
