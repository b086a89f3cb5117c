package card_test

import (
	"math"
	"math/rand"
	"slices"
	"testing"

	"nock/api"
	"nock/card"
)

// P3.4: the fewest changes, and the fouls.
func TestChanges(t *testing.T) {
	for i, x := range []struct {
		a, b []int
		want []api.CardChange
		f    api.Foul
	}{
		{list(10, 9, 9), list(11, 9, 8), []api.CardChange{change(10, 11), change(9, 8)}, api.Fair},
		{list(11, 9, 8), list(10, 9, 9), []api.CardChange{change(11, 10), change(8, 9)}, api.Fair},
		{list(10, 9, 8), list(9, 8, 7), []api.CardChange{change(10, 7)}, api.Fair},
		{list(9, 8, 7), list(10, 9, 8), []api.CardChange{change(7, 10)}, api.Fair},
		{list(9), list(9), nil, api.Fair},
		{list(11, 10, 9, 0), list(11, 10, 9, 0), nil, api.Fair},
		{nil, nil, nil, api.Fair},
		{nil, list(), nil, api.Fair},
		{list(5, 5, 5, 5), list(6, 6, 6, 6), []api.CardChange{change(5, 6), change(5, 6), change(5, 6), change(5, 6)}, api.Fair},
		{list(5, 5, 5, 4), list(6, 5, 4, 4), []api.CardChange{change(5, 6), change(5, 4)}, api.Fair},
		{list(11, 11, 0, 0), list(10, 10, 1, 1), []api.CardChange{change(11, 10), change(11, 10), change(0, 1), change(0, 1)}, api.Fair},
		{list(9, 2), list(8, 7), []api.CardChange{change(9, 8), change(2, 7)}, api.Fair},
		{list(9), nil, nil, api.BadCount},
		{nil, list(9), nil, api.BadCount},
		{list(9, 9), list(9, 9, 9), nil, api.BadCount},
		{make([]int, 5), make([]int, 5), nil, api.BadCount},
		{make([]int, 4), make([]int, 5), nil, api.BadCount},
		{make([]int, 5), make([]int, 4), nil, api.BadCount},
		{list(12, 12), list(12), nil, api.BadCount},
		{list(12), list(9), nil, api.OffLimits},
		{list(9), list(-1), nil, api.OffLimits},
		{list(math.MinInt), list(math.MaxInt), nil, api.OffLimits},
		{list(8, 9), list(12, 9), nil, api.OutOfOrder},
		{list(12, 9), list(8, 9), nil, api.OffLimits},
		{list(9, 9), list(8, 9), nil, api.OutOfOrder},
		{list(8, 9, 12), list(9, 9, 9), nil, api.OutOfOrder},
		{list(9, 9, 9), list(9, 12, 13), nil, api.OffLimits},
		{list(9, 9, 9), list(8, 9, 13), nil, api.OutOfOrder},
	} {
		if l, f := card.Changes(x.a, x.b); !slices.Equal(l, x.want) || f != x.f {
			t.Error(i, l, f)
		}
	}
}

// leastChanges returns in how many places two lists differ if one of them is put in the best order.
func leastChanges(a, b []int) int {
	if len(a) == 0 {
		return 0
	}
	least := len(a)
	for i := range b {
		n := leastChanges(a[1:], slices.Delete(slices.Clone(b), i, i+1))
		if a[0] != b[i] {
			n++
		}
		least = min(least, n)
	}
	return least
}

// changed returns a list after changes.
func changed(t *testing.T, a []int, changes []api.CardChange) []int {
	t.Helper()
	// The marks are taken away before others come, so that no change undoes another one.
	o := slices.Clone(a)
	for _, x := range changes {
		i := slices.Index(o, x.From)
		if i < 0 {
			t.Fatal(a, changes)
		}
		o = slices.Delete(o, i, i+1)
	}
	for _, x := range changes {
		o = append(o, x.To)
	}
	return highestFirst(o)
}

// highLists returns all lists of a length whose elements are some marks, the highest first.
func highLists(length int, marks ...int) [][]int {
	if length == 0 {
		return lists(list())
	}
	var all [][]int
	for _, some := range highLists(length-1, marks...) {
		for _, mark := range marks {
			if length == 1 || mark <= some[len(some)-1] {
				all = append(all, append(slices.Clone(some), mark))
			}
		}
	}
	return all
}

// P3.4, P3.11: changes lead from one list to the other one, no fewer do, and as many lead back.
func TestChangesLead(t *testing.T) {
	for length := range api.MaxCardArrows + 1 {
		all := highLists(length, 0, 9, 10, 11)
		for _, a := range all {
			for _, b := range all {
				l, f := card.Changes(a, b)
				fair(t, f)
				if !slices.Equal(changed(t, a, l), b) || len(l) != leastChanges(a, b) {
					t.Fatal(a, b, l)
				}
				var from, to []int
				for _, x := range l {
					from, to = append(from, x.From), append(to, x.To)
				}
				if !slices.Equal(from, highestFirst(from)) || !slices.Equal(to, highestFirst(to)) {
					t.Fatal(a, b, l)
				}
				back, f := card.Changes(b, a)
				fair(t, f)
				for i, x := range back {
					if len(back) != len(l) || x != change(l[i].To, l[i].From) {
						t.Fatal(a, b, l, back)
					}
				}
			}
		}
	}
}

// P3.11: by way of a third list there are no fewer changes.
func TestChangesByAThird(t *testing.T) {
	r := rand.New(rand.NewSource(51))
	for range 3000 {
		n := r.Intn(api.MaxCardArrows + 1)
		var all [3][]int
		for i := range all {
			for range n {
				all[i] = append(all[i], randomMark(r))
			}
			all[i] = highestFirst(all[i])
		}
		ab, f := card.Changes(all[0], all[1])
		fair(t, f)
		bc, f := card.Changes(all[1], all[2])
		fair(t, f)
		ac, f := card.Changes(all[0], all[2])
		fair(t, f)
		if len(ab)+len(bc) < len(ac) {
			t.Fatal(all, ab, bc, ac)
		}
	}
}
