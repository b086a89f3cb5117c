package card_test

import (
	"cmp"
	"math/rand"
	"slices"
	"testing"

	"nock/api"
	"nock/card"
)

// P3.2: the arrows that decide, and the fouls.
func TestDecide(t *testing.T) {
	for i, x := range []struct {
		c    api.CardSheet
		end  int
		want []int
		f    api.Foul
	}{
		{exampleCard(), 0, list(1), api.Fair},
		{exampleCard(), 1, list(0, 1), api.Fair},
		{with(func(c *api.CardSheet) { c.Rule.Slips = 2 }), 0, list(0, 1), api.Fair},
		{misfit(), 0, nil, api.Against},
		{misfit(), 1, list(0, 1), api.Fair},
		{misfit(), 2, nil, api.Unknown},
		{exampleCard(), -1, nil, api.Unknown},
		{with(func(c *api.CardSheet) { c.Rule.Slips = 4 }), 9, nil, api.OffLimits},
		// One total is left, though two arrows are in doubt.
		{sheet(3, 0, end(lists(list(8, 9), list(8, 9), list(10)), list(10, 9, 8))), 0, nil, api.Fair},
		{sheet(2, 1, end(lists(list(8, 9), list(8, 9)), list(9, 9), list(8, 8))), 0, nil, api.Fair},
		{sheet(2, 0, end(lists(list(5, 7), list(5, 7)), list(7, 5))), 0, nil, api.Fair},
		// The mark of either arrow tells that of the other one, as 9 and 5 or 7 and 6 are left: the first one is the least list.
		{sheet(2, 1, end(lists(list(5, 7), list(6, 9)), list(9, 6), list(7, 5))), 0, list(0), api.Fair},
		// An inner ten and a ten have the same value, and other totals.
		{one(10, 11), 0, list(0), api.Fair},
		{one(11), 0, nil, api.Fair},
		// Arrow 2 alone decides: the other ones have one mark each.
		{sheet(3, 0, end(lists(list(1), list(2), list(0, 3)))), 0, list(2), api.Fair},
		{sheet(4, 0, end(lists(list(1), list(2, 3), list(4), list(0, 3)))), 0, list(1, 3), api.Fair},
		{greatCard(), 2, list(0, 1, 2, 3), api.Fair},
	} {
		if l, f := card.Decide(x.c, x.end); !slices.Equal(l, x.want) || f != x.f {
			t.Error(i, l, f)
		}
	}
}

// subsets returns all lists of the first arrows, the shortest first, of those the least first.
func subsets(arrows int) [][]int {
	all := lists(list())
	for arrow := range arrows {
		for _, some := range all {
			all = append(all, append(slices.Clone(some), arrow))
		}
	}
	slices.SortFunc(all, func(a, b []int) int {
		return cmp.Or(cmp.Compare(len(a), len(b)), slices.Compare(a, b))
	})
	return all
}

// decides says whether any two truths that give some arrows the same marks have the same total.
func decides(all [][]int, arrows []int) bool {
	for i, a := range all {
		for _, b := range all[:i] {
			same := true
			for _, arrow := range arrows {
				same = same && a[arrow] == b[arrow]
			}
			if same && totalOf(a) != totalOf(b) {
				return false
			}
		}
	}
	return true
}

// P3.2, P4: the fewest arrows that decide, of several lists the least one.
func TestDecideByTruths(t *testing.T) {
	r := rand.New(rand.NewSource(41))
	sizes := make(map[int]int)
	linked := 0
	for range 1500 {
		c := randomCard(r)
		for i := range c.Ends {
			all := truths(c, i)
			l, f := card.Decide(c, i)
			if len(all) == 0 {
				if len(l) > 0 || f != api.Against {
					t.Fatal(c, i, l, f)
				}
				continue
			}
			sets := subsets(c.Rule.Arrows)
			want := sets[slices.IndexFunc(sets, func(some []int) bool { return decides(all, some) })]
			if !slices.Equal(l, want) || f != api.Fair {
				t.Fatal(c, i, l, f, want)
			}
			sizes[len(l)]++
			if len(l) < len(inDoubt(c, i)) {
				linked++
			}
		}
	}
	if sizes[0] < 50 || sizes[1] < 50 || sizes[2] < 50 || sizes[3] < 5 || linked < 20 {
		t.Error("too few of one size", sizes, linked)
	}
}

// inDoubt returns the arrows of an end to which truths give more than one mark.
func inDoubt(c api.CardSheet, end int) []int {
	all := truths(c, end)
	var some []int
	for arrow := range c.Rule.Arrows {
		if slices.ContainsFunc(all, func(truth []int) bool { return truth[arrow] != all[0][arrow] }) {
			some = append(some, arrow)
		}
	}
	return some
}

// mostLeft returns how many totals are left at most once the marks of some arrows are found, in each way that a truth allows.
func mostLeft(t *testing.T, c api.CardSheet, end int, arrows []int) int {
	t.Helper()
	if len(arrows) == 0 {
		return len(totalsOf(t, c, end))
	}
	most := 0
	for _, mark := range marksOf(t, c, end, arrows[0]) {
		o, f := card.Look(c, end, arrows[0], list(mark))
		fair(t, f)
		most = max(most, mostLeft(t, o, end, arrows[1:]))
	}
	return most
}

// P3.8: whatever marks the arrows of Decide are found to have, one total is left; with fewer arrows some finding leaves more.
func TestDecideLeavesOne(t *testing.T) {
	r := rand.New(rand.NewSource(42))
	for range 300 {
		c := randomFit(r)
		for i := range c.Ends {
			l, f := card.Decide(c, i)
			fair(t, f)
			if n := mostLeft(t, c, i, l); n != 1 {
				t.Fatal(c, i, l, n)
			}
			for _, fewer := range subsets(c.Rule.Arrows) {
				if len(fewer) < len(l) && mostLeft(t, c, i, fewer) < 2 {
					t.Fatal(c, i, l, fewer)
				}
			}
		}
	}
}
