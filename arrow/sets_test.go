package arrow_test

import (
	"math/rand"
	"slices"
	"testing"

	"nock/api"
	"nock/arrow"
)

// P1.2: the sets of the example, the least one first.
func TestSets(t *testing.T) {
	want := [][]int{{0, 1, 2}, {0, 1, 4}, {0, 1, 5}, {0, 2, 4}, {0, 2, 5}, {0, 4, 5}, {1, 2, 4}, {1, 2, 5}, {1, 3, 4}, {1, 3, 5}, {1, 4, 5}, {2, 4, 5}, {3, 4, 5}}
	if l, f := arrow.Sets(exampleStock()); !sameLists(l, want) || f != api.Fair {
		t.Error(l, f)
	}
	few := exampleStock()
	few.Shafts = few.Shafts[:2]
	if l, f := arrow.Sets(few); len(l) > 0 || f != api.Fair {
		t.Error(l, f)
	}
	few.Rule.Many = 2
	if l, f := arrow.Sets(few); !sameLists(l, [][]int{{0, 1}}) || f != api.Fair {
		t.Error(l, f)
	}
	few.Shafts = nil
	if l, f := arrow.Sets(few); len(l) > 0 || f != api.Fair {
		t.Error(l, f)
	}
}

// P1.2: shafts that match just perhaps are no set.
func TestMaybeIsNoSet(t *testing.T) {
	s := exampleStock()
	s.Rule.Many = 2
	s.Shafts = []api.ArrowShaft{s.Shafts[0], s.Shafts[3]}
	if l, f := arrow.Sets(s); len(l) > 0 || f != api.Fair {
		t.Error(l, f)
	}
	if sets, left, f := arrow.Fill(s); len(sets) > 0 || !slices.Equal(left, []int{0, 1}) || f != api.Fair {
		t.Error(sets, left, f)
	}
}

// P1.2: the greatest stock: any lists of Many shafts are sets.
func TestAllMatch(t *testing.T) {
	for many, count := range map[int]int{2: 36, 3: 84, 4: 126} {
		s := api.ArrowStock{Rule: api.ArrowRule{Many: many}, Shafts: manyShafts(9)}
		l, f := arrow.Sets(s)
		if len(l) != count || !slices.IsSortedFunc(l, slices.Compare[[]int]) || f != api.Fair {
			t.Error(many, len(l), f)
		}
		sets, left, f := arrow.Fill(s)
		used := slices.Concat(sets...)
		if len(sets) != 9/many || f != api.Fair || !slices.Equal(slices.Concat(used, left), []int{0, 1, 2, 3, 4, 5, 6, 7, 8}) {
			t.Error(many, sets, left, f)
		}
	}
}

// P1.2: Fill takes the most sets, of several shares the least one.
func TestFill(t *testing.T) {
	for what, x := range map[string]struct {
		change func(s *api.ArrowStock)
		sets   [][]int
		left   []int
	}{
		"as it is":     {func(s *api.ArrowStock) {}, [][]int{{0, 1, 2}, {3, 4, 5}}, []int{6}},
		"sets of two":  {func(s *api.ArrowStock) { s.Rule.Many = 2 }, [][]int{{0, 1}, {2, 4}, {3, 5}}, []int{6}},
		"sets of four": {func(s *api.ArrowStock) { s.Rule.Many = 4 }, [][]int{{0, 1, 2, 4}}, []int{3, 5, 6}},
		"less spine":   {func(s *api.ArrowStock) { s.Rule.Spine = 9 }, [][]int{{0, 2, 4}, {1, 3, 5}}, []int{6}},
		"two shafts":   {func(s *api.ArrowStock) { s.Shafts = s.Shafts[:2] }, nil, []int{0, 1}},
		"no shafts":    {func(s *api.ArrowStock) { s.Shafts = nil }, nil, nil},
	} {
		s := exampleStock()
		x.change(&s)
		if sets, left, f := arrow.Fill(s); !sameLists(sets, x.sets) || !slices.Equal(left, x.left) || f != api.Fair {
			t.Error(what, sets, left, f)
		}
	}
}

// P1.2: the least set is not taken if that costs a set; and the first shaft is left if this leaves more sets.
func TestFillIsNotGreedy(t *testing.T) {
	chain := api.ArrowStock{Rule: api.ArrowRule{Spine: 1, Many: 2}, Shafts: manyShafts(4)}
	for i, spine := range []int{2, 3, 1, 4} {
		chain.Shafts[i].Spine = one(spine)
	}
	if sets, left, f := arrow.Fill(chain); !sameLists(sets, [][]int{{0, 2}, {1, 3}}) || len(left) > 0 || f != api.Fair {
		t.Error(sets, left, f)
	}
	// The shaft 0 matches just one shaft of 1, 2, 3 and one of 4, 5, 6, so that its only set costs two others.
	bridge := api.ArrowStock{Rule: api.ArrowRule{Spine: 1, Length: 1, Many: 3}, Shafts: manyShafts(7)}
	for i, x := range [][2]int{{2, 2}, {2, 1}, {1, 0}, {1, 0}, {3, 1}, {4, 0}, {4, 0}} {
		bridge.Shafts[i].Spine, bridge.Shafts[i].Length = one(x[0]), one(x[1])
	}
	if l, f := arrow.Sets(bridge); !sameLists(l, [][]int{{0, 1, 4}, {1, 2, 3}, {4, 5, 6}}) || f != api.Fair {
		t.Error(l, f)
	}
	if sets, left, f := arrow.Fill(bridge); !sameLists(sets, [][]int{{1, 2, 3}, {4, 5, 6}}) || !slices.Equal(left, []int{0}) || f != api.Fair {
		t.Error(sets, left, f)
	}
}

// P1.2: how many sets are left without a shaft.
func TestWithout(t *testing.T) {
	for _, x := range []struct {
		shaft, want int
		f           api.Foul
	}{{3, 1, api.Fair}, {6, 2, api.Fair}, {0, 1, api.Fair}, {7, 0, api.Unknown}, {-1, 0, api.Unknown}} {
		if n, f := arrow.Without(exampleStock(), x.shaft); n != x.want || f != x.f {
			t.Error(x, n, f)
		}
	}
}

// P1.2: fouls of the stock come first, and nothing is returned beside them.
func TestSetsFouls(t *testing.T) {
	s := exampleStock()
	s.Shafts[1].Name = "a"
	if l, f := arrow.Sets(s); len(l) > 0 || f != api.Twice {
		t.Error(l, f)
	}
	if sets, left, f := arrow.Fill(s); len(sets)+len(left) > 0 || f != api.Twice {
		t.Error(sets, left, f)
	}
	if n, f := arrow.Without(s, 99); n != 0 || f != api.Twice {
		t.Error(n, f)
	}
}

// trueSets returns the lists of Many shafts that match in all truths, as each two of them do.
func trueSets(s api.ArrowStock) [][]int {
	var sets [][]int
	for _, list := range subsets(len(s.Shafts)) {
		sure := len(list) == s.Rule.Many
		for _, a := range list {
			for _, b := range list {
				x, y := s.Shafts[a], s.Shafts[b]
				sure = sure && (a == b || x.Spine.Max-y.Spine.Min <= s.Rule.Spine && x.Length.Max-y.Length.Min <= s.Rule.Length && x.Weight.Max-y.Weight.Min <= s.Rule.Weight)
			}
		}
		if sure {
			sets = append(sets, list)
		}
	}
	slices.SortFunc(sets, slices.Compare[[]int])
	return sets
}

// allShares gives each share of some sets to see.
func allShares(sets, share [][]int, see func(share [][]int)) {
	see(share)
	for i, set := range sets {
		used := slices.Concat(share...)
		if !slices.ContainsFunc(set, func(shaft int) bool { return slices.Contains(used, shaft) }) {
			allShares(sets[i+1:], append(share, set), see)
		}
	}
}

// bestShare looks at all shares.
func bestShare(sets [][]int) [][]int {
	var best [][]int
	allShares(sets, nil, func(share [][]int) {
		if len(share) > len(best) || len(share) == len(best) && slices.CompareFunc(share, best, slices.Compare[[]int]) < 0 {
			best = slices.Clone(share)
		}
	})
	return best
}

// P1.2, P1.7, P4: no other share has more sets, and none with as many is less.
func TestFillOfAllShares(t *testing.T) {
	r := rand.New(rand.NewSource(4))
	seen := map[int]int{}
	for range 400 {
		s := randomStock(r, 4+r.Intn(6))
		s.Rule.Spine, s.Rule.Length, s.Rule.Weight = s.Rule.Spine+1, 4, 4
		sets := trueSets(s)
		if l, f := arrow.Sets(s); !sameLists(l, sets) || f != api.Fair {
			t.Fatal(s, l, sets, f)
		}
		want := bestShare(sets)
		share, left, f := arrow.Fill(s)
		if !sameLists(share, want) || f != api.Fair {
			t.Fatal(s, share, want, f)
		}
		seen[len(share)]++
		all := slices.Concat(append(slices.Clone(share), left)...)
		slices.Sort(all)
		if len(all) != len(s.Shafts) || len(slices.Compact(all)) != len(s.Shafts) || !slices.IsSorted(left) {
			t.Fatal("shafts are lost, or used twice", s, share, left)
		}
	}
	if len(seen) < 4 {
		t.Error("stocks are not mixed enough", seen)
	}
}

// P1.7: the sets of a share match in every truth.
func TestFillMatches(t *testing.T) {
	r := rand.New(rand.NewSource(5))
	for range 100 {
		s := randomStock(r, 6)
		for _, set := range fill(t, s) {
			if truthsSay(s, set) != api.Yes {
				t.Fatal(s, set)
			}
		}
	}
}

// P1.7, P3: one more shaft, or one more measurement, never makes fewer sets; one shaft less costs one set at most.
func TestFillOfMore(t *testing.T) {
	r := rand.New(rand.NewSource(6))
	for range 200 {
		s := randomStock(r, 2+r.Intn(7))
		many := len(fill(t, s))
		if after := len(fill(t, randomMeasurement(t, r, s))); after < many {
			t.Fatal("fewer after a measurement", s, many, after)
		}
		for shaft := range s.Shafts {
			less := copyStock(s)
			less.Shafts = slices.Delete(less.Shafts, shaft, shaft+1)
			n, f := arrow.Without(s, shaft)
			if n != len(fill(t, less)) || n > many || n < many-1 || f != api.Fair {
				t.Fatal(s, shaft, n, many, f)
			}
		}
	}
}

// P1.7, P5: the order of shafts changes no more than their indexes.
func TestSetsInAnyOrder(t *testing.T) {
	r := rand.New(rand.NewSource(7))
	for range 100 {
		s := randomStock(r, 7)
		order := r.Perm(7)
		mixed := copyStock(s)
		for i, from := range order {
			mixed.Shafts[i] = s.Shafts[from]
		}
		sets, f := arrow.Sets(mixed)
		fair(t, f)
		for _, set := range sets {
			for i := range set {
				set[i] = order[set[i]]
			}
			slices.Sort(set)
		}
		slices.SortFunc(sets, slices.Compare[[]int])
		if l, _ := arrow.Sets(s); !sameLists(l, sets) {
			t.Fatal(s, order, l, sets)
		}
		if len(fill(t, s)) != len(fill(t, mixed)) {
			t.Fatal(s, order)
		}
	}
}

// R4: no two lists of a result share memory, and no call is changed by what is done to an earlier result.
func TestSetsShareNoMemory(t *testing.T) {
	s := exampleStock()
	for _, call := range []func() [][]int{
		func() [][]int { l, _ := arrow.Sets(s); return l },
		func() [][]int { l, left, _ := arrow.Fill(s); return append(l, left) },
	} {
		want := call()
		l := call()
		for i := range l {
			_ = append(l[i], -1)
			if !sameLists(l, want) {
				t.Fatal(l, want)
			}
		}
		for i := range l {
			for j := range l[i] {
				l[i][j] = -1
			}
			if !sameLists(l[i+1:], want[i+1:]) {
				t.Fatal(l, want)
			}
		}
		if !sameLists(call(), want) {
			t.Fatal(call(), want)
		}
	}
}
