package card_test

import (
	"math/rand"
	"slices"
	"testing"

	"nock/api"
	"nock/card"
)

// P3.2: the totals of all truths, and the least one.
func TestAll(t *testing.T) {
	for what, x := range map[string]struct {
		change func(c *api.CardSheet)
		want   []api.FaceTotal
		f      api.Foul
	}{
		"as it is": {func(c *api.CardSheet) {}, plain(49, 50, 51, 52), api.Fair},
		"no ends":  {func(c *api.CardSheet) { c.Ends = nil }, plain(0), api.Fair},
		"one end":  {func(c *api.CardSheet) { c.Ends = c.Ends[1:] }, plain(22, 23, 24), api.Fair},
		"with inner tens": {func(c *api.CardSheet) {
			c.Ends[0].Told = nil
			c.Ends[1].Marks = lists(list(6), list(6), list(10, 11))
		}, []api.FaceTotal{total(49, 0), total(49, 1), total(49, 2), total(50, 0), total(50, 1), total(50, 2)}, api.Fair},
		"first misfit":  {func(c *api.CardSheet) { c.Rule.Slips = 0 }, nil, api.Against},
		"second misfit": {func(c *api.CardSheet) { c.Ends[1].Told = lists(list(0, 0, 0)) }, nil, api.Against},
		"foul":          {func(c *api.CardSheet) { c.Rule.Arrows = 0 }, nil, api.OffLimits},
		"misfit and foul": {func(c *api.CardSheet) {
			c.Rule.Slips = 0
			c.Ends[1].Marks[2] = nil
		}, nil, api.BadCount},
	} {
		c := with(x.change)
		l, f := card.All(c)
		if !slices.Equal(l, x.want) || f != x.f {
			t.Error(what, l, f)
		}
		least := total(0, 0)
		if len(x.want) > 0 {
			least = x.want[0]
		}
		if o, f := card.Official(c); o != least || f != x.f {
			t.Error(what, o, f)
		}
	}
}

// P3.2: the value decides before the inner tens: more of these can be in a total that is less.
func TestOfficialByValue(t *testing.T) {
	c := sheet(2, 0, end(lists(list(11), list(8, 9)), list(11, 8)), end(lists(list(10, 11), list(9))))
	if o, f := card.Official(c); o != total(37, 1) || f != api.Fair {
		t.Error(o, f)
	}
	c = sheet(2, 1, end(lists(list(9, 10), list(9, 11)), list(10, 9)))
	want := []api.FaceTotal{total(18, 0), total(19, 0), total(19, 1), total(20, 1)}
	if l := totalsOf(t, c, 0); !slices.Equal(l, want[:3]) {
		t.Error(l)
	}
	c.Rule.Slips = 2
	if l := totalsOf(t, c, 0); !slices.Equal(l, want) {
		t.Error(l)
	}
}

// P3.2: which arrows are in doubt.
func TestDoubts(t *testing.T) {
	for what, x := range map[string]struct {
		change func(c *api.CardSheet)
		want   []api.CardPlace
		f      api.Foul
	}{
		"as it is":  {func(c *api.CardSheet) {}, []api.CardPlace{place(0, 1), place(1, 0), place(1, 1)}, api.Fair},
		"two slips": {func(c *api.CardSheet) { c.Rule.Slips = 2 }, []api.CardPlace{place(0, 0), place(0, 1), place(1, 0), place(1, 1)}, api.Fair},
		"misfit":    {func(c *api.CardSheet) { c.Rule.Slips = 0 }, []api.CardPlace{place(1, 0), place(1, 1)}, api.Fair},
		"no ends":   {func(c *api.CardSheet) { c.Ends = nil }, nil, api.Fair},
		"no doubts": {func(c *api.CardSheet) { c.Ends = c.Ends[:1]; c.Ends[0].Marks[1] = list(9) }, nil, api.Fair},
		"crossed": {func(c *api.CardSheet) {
			c.Ends = []api.CardEnd{end(lists(list(8, 9), list(8, 9), list(10)), list(10, 9, 8))}
			c.Rule.Slips = 0
		}, []api.CardPlace{place(0, 0), place(0, 1)}, api.Fair},
		"foul": {func(c *api.CardSheet) { c.Rule.Slips = 4 }, nil, api.OffLimits},
	} {
		if l, f := card.Doubts(with(x.change)); !slices.Equal(l, x.want) || f != x.f {
			t.Error(what, l, f)
		}
	}
}

// P3.2, P3.7, P2: what is said of a card is that of its truths; an arrow that is not in doubt has one mark.
func TestCardsOfTruths(t *testing.T) {
	r := rand.New(rand.NewSource(21))
	fit := 0
	for range 1500 {
		c := randomCard(r)
		var want []api.FaceTotal
		wantFoul, least := api.Against, total(0, 0)
		if fits(c) {
			want, wantFoul = totalsOfAll(c), api.Fair
			least = slices.MinFunc(want, byTotal)
			fit++
		}
		if l, f := card.All(c); !slices.Equal(l, want) || f != wantFoul {
			t.Fatal(c, l, f, want)
		}
		if o, f := card.Official(c); o != least || f != wantFoul {
			t.Fatal(c, o, f, least)
		}
		var doubts []api.CardPlace
		for i := range c.Ends {
			all := truths(c, i)
			for arrow := range c.Rule.Arrows {
				if slices.ContainsFunc(all, func(truth []int) bool { return truth[arrow] != all[0][arrow] }) {
					doubts = append(doubts, place(i, arrow))
				} else if l := marksOf(t, c, i, arrow); len(l) > 1 || (len(l) == 1) != (len(all) > 0) {
					t.Fatal(c, i, arrow, l)
				}
			}
		}
		if l := doubtsOf(t, c); !slices.Equal(l, doubts) {
			t.Fatal(c, l, doubts)
		}
	}
	if fit < 300 || fit > 1300 {
		t.Error("too many or too few cards that fit", fit)
	}
}

// one returns a card of one end with one arrow.
func one(marks ...int) api.CardSheet { return sheet(1, 0, end(lists(marks))) }

// P3.4: which card beats another one, and the fouls.
func TestBeats(t *testing.T) {
	bad := one(9)
	bad.Ends[0].Told = lists(list(8))
	for i, x := range []struct {
		a, b api.CardSheet
		want api.Sure
		f    api.Foul
	}{
		{one(9), one(8), api.Yes, api.Fair},
		{one(8), one(9), api.No, api.Fair},
		{one(9), one(9), api.No, api.Fair},
		{one(8, 9), one(8), api.Maybe, api.Fair},
		{one(8, 9), one(9), api.No, api.Fair},
		{one(9), one(8, 9), api.Maybe, api.Fair},
		{one(8), one(8, 9), api.No, api.Fair},
		{one(9, 10), one(8), api.Yes, api.Fair},
		{one(9, 10), one(7, 8), api.Yes, api.Fair},
		{one(8, 10), one(9), api.Maybe, api.Fair},
		{one(8, 10), one(8, 10), api.Maybe, api.Fair},
		{one(11), one(10), api.Yes, api.Fair},
		{one(10), one(11), api.No, api.Fair},
		{one(10, 11), one(10), api.Maybe, api.Fair},
		{one(0), sheet(2, 0), api.No, api.Fair},
		{one(1), sheet(2, 0), api.Yes, api.Fair},
		{sheet(1, 0), sheet(4, 4), api.No, api.Fair},
		{one(10), exampleCard(), api.No, api.Fair},
		{exampleCard(), one(10), api.Yes, api.Fair},
		{exampleCard(), exampleCard(), api.Maybe, api.Fair},
		// The value decides before the inner tens.
		{sheet(2, 0, end(lists(list(11), list(8)))), sheet(2, 0, end(lists(list(9), list(10)))), api.No, api.Fair},
		{bad, one(8), api.Maybe, api.Against},
		{one(8), bad, api.Maybe, api.Against},
		{bad, bad, api.Maybe, api.Against},
		{one(12), bad, api.Maybe, api.OffLimits},
		{bad, one(12), api.Maybe, api.OffLimits},
		{bad, one(), api.Maybe, api.BadCount},
		{one(), one(12), api.Maybe, api.BadCount},
		{one(12), one(), api.Maybe, api.OffLimits},
		{one(8), one(9, 9), api.Maybe, api.OutOfOrder},
	} {
		if s, f := card.Beats(x.a, x.b); s != x.want || f != x.f {
			t.Error(i, s, f)
		}
	}
}

// P3.4, P3.10: what is said of two cards is that of their truths, and of two cards one at most surely beats the other one.
func TestBeatsByTruths(t *testing.T) {
	r := rand.New(rand.NewSource(22))
	seen := make(map[api.Sure]int)
	for range 1000 {
		a, b := randomFit(r), randomFit(r)
		if r.Intn(2) == 0 {
			// Cards of the same size are near to each other.
			b = copyCard(a)
			for i := range b.Ends {
				slices.Reverse(b.Ends[i].Marks)
			}
		}
		is, isNot := false, false
		ones, twos := totalsOfAll(a), totalsOfAll(b)
		for _, x := range ones {
			for _, y := range twos {
				if byTotal(x, y) > 0 {
					is = true
				} else {
					isNot = true
				}
			}
		}
		s, f := card.Beats(a, b)
		if want := sureOf(is, isNot); s != want || f != api.Fair {
			t.Fatal(a, b, s, f, want)
		}
		back, f := card.Beats(b, a)
		fair(t, f)
		if s == api.Yes && back != api.No {
			t.Fatal(a, b, s, back)
		}
		seen[s]++
	}
	if seen[api.Yes] < 100 || seen[api.No] < 100 || seen[api.Maybe] < 100 {
		t.Error("too few of one answer", seen)
	}
}
