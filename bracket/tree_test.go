package bracket_test

import (
	"math"
	"slices"
	"testing"

	"nock/api"
	"nock/bracket"
)

// P5.1: the slots of each number of seeds, and the foul.
func TestSlots(t *testing.T) {
	for seeds, want := range map[int][]int{
		2: {0, 1},
		3: {0, nobody, 1, 2},
		4: {0, 3, 1, 2},
		5: {0, nobody, 3, 4, 1, nobody, 2, nobody},
		6: {0, nobody, 3, 4, 1, nobody, 2, 5},
		7: {0, nobody, 3, 4, 1, 6, 2, 5},
		8: {0, 7, 3, 4, 1, 6, 2, 5},
	} {
		if l, f := bracket.Slots(seeds); !slices.Equal(l, want) || f != api.Fair {
			t.Error(seeds, l, f)
		}
	}
	for _, seeds := range list(1, 0, -1, 9, 16, math.MinInt, math.MaxInt) {
		if l, f := bracket.Slots(seeds); len(l) > 0 || f != api.OffLimits {
			t.Error(seeds, l, f)
		}
	}
}

// R4: each answer is new memory.
func TestSlotsShareNothing(t *testing.T) {
	for range 2 {
		l, f := bracket.Slots(8)
		if fair(t, f); !slices.Equal(l, list(0, 7, 3, 4, 1, 6, 2, 5)) {
			t.Error(l)
		}
		for i := range l {
			l[i] = 99
		}
	}
}

// P5.9: each seed has one slot; those of a match have the same sum of indexes; the best ones have byes.
func TestSlotsOfSeeds(t *testing.T) {
	for seeds := 2; seeds <= api.MaxBracketSeeds; seeds++ {
		l, f := bracket.Slots(seeds)
		fair(t, f)
		size, byes := len(l), 0
		if size != sizeOf(seeds) {
			t.Error(seeds, l)
		}
		for seed := range seeds {
			if i := slices.Index(l, seed); i < 0 || slices.Contains(l[i+1:], seed) {
				t.Error(seeds, seed, l)
			}
		}
		for match := range size / 2 {
			one, two := l[2*match], l[2*match+1]
			switch {
			case two == nobody:
				byes++
				if one >= size-seeds || size-1-one < seeds {
					t.Error("a bye for another one", seeds, l)
				}
			case one+two != size-1:
				t.Error("another sum", seeds, l)
			}
		}
		if byes != size-seeds {
			t.Error(seeds, byes, l)
		}
	}
}

// met is what Meet returns.
type met struct {
	match int
	f     api.Foul
}

func meet(seeds, one, two int) met {
	match, f := bracket.Meet(seeds, one, two)
	return met{match, f}
}

// P5.1: where two seeds can meet, and the fouls.
func TestMeet(t *testing.T) {
	for x, want := range map[[3]int]met{
		{5, 3, 4}:           {1, api.Fair},
		{5, 0, 3}:           {4, api.Fair},
		{5, 0, 1}:           {6, api.Fair},
		{5, 4, 0}:           {4, api.Fair},
		{5, 2, 1}:           {5, api.Fair},
		{8, 7, 0}:           {0, api.Fair},
		{8, 7, 3}:           {4, api.Fair},
		{8, 7, 6}:           {6, api.Fair},
		{8, 5, 6}:           {5, api.Fair},
		{4, 0, 3}:           {0, api.Fair},
		{4, 3, 2}:           {2, api.Fair},
		{3, 1, 2}:           {1, api.Fair},
		{3, 0, 2}:           {2, api.Fair},
		{2, 1, 0}:           {0, api.Fair},
		{5, 5, 0}:           {0, api.Unknown},
		{5, 0, 5}:           {0, api.Unknown},
		{5, -1, 0}:          {0, api.Unknown},
		{5, 0, -1}:          {0, api.Unknown},
		{5, 5, 5}:           {0, api.Unknown},
		{5, -1, -1}:         {0, api.Unknown},
		{5, 0, math.MaxInt}: {0, api.Unknown},
		{5, math.MinInt, 0}: {0, api.Unknown},
		{5, 0, 0}:           {0, api.Circular},
		{5, 4, 4}:           {0, api.Circular},
		{1, 0, 0}:           {0, api.OffLimits},
		{1, 0, 1}:           {0, api.OffLimits},
		{9, 0, 1}:           {0, api.OffLimits},
		{9, 9, 9}:           {0, api.OffLimits},
		{0, -1, -1}:         {0, api.OffLimits},
		{-1, 0, 1}:          {0, api.OffLimits},
		{math.MaxInt, 0, 1}: {0, api.OffLimits},
		{math.MinInt, 0, 1}: {0, api.OffLimits},
	} {
		if m := meet(x[0], x[1], x[2]); m != want {
			t.Error(x, m)
		}
	}
}

// P5.1, P5.9: two seeds can be the sides of just one match beside the third one, and Meet returns it.
func TestMeetOfTruths(t *testing.T) {
	for seeds := 2; seeds <= api.MaxBracketSeeds; seeds++ {
		third := sizeOf(seeds) - 1
		for one := range seeds {
			for two := range seeds {
				if one == two {
					continue
				}
				m := meet(seeds, one, two)
				for _, x := range truths(seeds) {
					for match, f := range x {
						is := f.one == one && f.two == two || f.one == two && f.two == one
						if is && match != third && (met{match, api.Fair}) != m {
							t.Error(seeds, one, two, m, match)
						}
					}
				}
				if m != meet(seeds, two, one) {
					t.Error(seeds, one, two, m)
				}
			}
		}
	}
}

// P5.9: the two best ones can meet in the final alone; of three seeds two pairs meet in the same match, the third pair no later.
func TestMeetOfThree(t *testing.T) {
	for seeds := 2; seeds <= api.MaxBracketSeeds; seeds++ {
		if m := meet(seeds, 0, 1); m != (met{sizeOf(seeds) - 2, api.Fair}) {
			t.Error(seeds, m)
		}
		round := func(match int) int {
			return slices.IndexFunc(roundsBySize[sizeOf(seeds)], func(l []int) bool { return slices.Contains(l, match) })
		}
		for a := range seeds {
			for b := range a {
				for c := range b {
					l := list(meet(seeds, a, b).match, meet(seeds, a, c).match, meet(seeds, b, c).match)
					slices.SortFunc(l, func(x, y int) int { return round(x) - round(y) })
					if l[1] != l[2] || round(l[0]) > round(l[1]) {
						t.Error(seeds, a, b, c, l)
					}
				}
			}
		}
	}
}
