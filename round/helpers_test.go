package round_test

import (
	"iter"
	"math/rand"
	"slices"
	"strconv"
	"testing"

	"nock/api"
	"nock/round"
)

func list(numbers ...int) []int { return numbers }

func lists(all ...[]int) [][]int { return all }

func sum(arrows, points, tens, inners int) api.RoundSum {
	return api.RoundSum{Arrows: arrows, Points: points, Tens: tens, Inners: inners}
}

func off(number, far int) api.RoundOff { return api.RoundOff{Number: number, Far: far} }

func leg(far, ends, arrows, best int) api.RoundLeg {
	return api.RoundLeg{Far: far, Ends: ends, Arrows: arrows, Best: best}
}

// archer returns an archer of class 0 by the numbers of the arrows.
func archer(name string, arrows ...int) api.RoundArcher {
	return api.RoundArcher{Name: name, Arrows: arrows}
}

// Archers of the example, by their indexes.
const (
	ann = iota
	ben
	cam
	dot
	eve
)

// example is the round R of the chapter.
func example() api.Round {
	r := api.Round{
		Legs: []api.RoundLeg{leg(70, 1, 3, 11), leg(50, 2, 2, 10)},
		Archers: []api.RoundArcher{
			archer("ann", 10, 9, 11, 10, 8),
			archer("ben", 11, 11, 7, 9),
			archer("cam", 9, 9, 9, 9, 9, 9, 9),
			archer("dot", 10),
			archer("eve", 9, 9, 9, 9, 9, 9, 9),
		},
	}
	r.Archers[cam].Offs = []api.RoundOff{off(9, 4)}
	r.Archers[dot].Class = 1
	r.Archers[eve].Offs = []api.RoundOff{off(9, 2), off(10, 1)}
	return r
}

// with returns the example with a change.
func with(change func(r *api.Round)) api.Round {
	r := example()
	change(&r)
	return r
}

// short returns a round of one leg, with an end of some arrows, whose archers a, b, c .. have shot some numbers.
func short(arrows, best int, shot ...[]int) api.Round {
	r := api.Round{Legs: []api.RoundLeg{leg(18, 1, arrows, best)}}
	for i, numbers := range shot {
		r.Archers = append(r.Archers, archer(string(rune('a'+i)), numbers...))
	}
	return r
}

// great returns a round as great as it may be, of which nothing is shot.
func great() api.Round {
	r := api.Round{Legs: []api.RoundLeg{leg(90, 5, 3, 11), leg(70, 3, 5, 11), leg(50, 5, 3, 11), leg(30, 3, 5, 11)}}
	for i := range api.MaxRoundArchers {
		r.Archers = append(r.Archers, archer("archer"+strconv.Itoa(i)))
	}
	return r
}

func copyRound(r api.Round) api.Round {
	o := api.Round{Legs: slices.Clone(r.Legs), Archers: slices.Clone(r.Archers)}
	for i, a := range r.Archers {
		o.Archers[i].Arrows, o.Archers[i].Offs = slices.Clone(a.Arrows), slices.Clone(a.Offs)
	}
	return o
}

func sameArcher(a, b api.RoundArcher) bool {
	return a.Name == b.Name && a.Class == b.Class && a.Out == b.Out && slices.Equal(a.Arrows, b.Arrows) && slices.Equal(a.Offs, b.Offs)
}

func sameRound(a, b api.Round) bool {
	return slices.Equal(a.Legs, b.Legs) && slices.EqualFunc(a.Archers, b.Archers, sameArcher)
}

func sameLists(a, b [][]int) bool { return slices.EqualFunc(a, b, slices.Equal[[]int]) }

// fair stops a test if there is a foul.
func fair(t *testing.T, f api.Foul) {
	t.Helper()
	if f != api.Fair {
		t.Fatal("foul", f)
	}
}

func ranksOf(t *testing.T, r api.Round, class int) []int {
	t.Helper()
	l, f := round.Ranks(r, class)
	fair(t, f)
	return l
}

func amongOf(t *testing.T, r api.Round, archer, k int) api.Sure {
	t.Helper()
	s, f := round.Among(r, archer, k)
	fair(t, f)
	return s
}

func threatsOf(t *testing.T, r api.Round, archer int) []int {
	t.Helper()
	l, f := round.Threats(r, archer)
	fair(t, f)
	return l
}

func shoot(t *testing.T, r api.Round, archer, number int) api.Round {
	t.Helper()
	o, f := round.Shoot(r, archer, number)
	fair(t, f)
	return o
}

// randomLegs returns a few legs of few arrows.
func randomLegs(r *rand.Rand) []api.RoundLeg {
	var legs []api.RoundLeg
	for range 1 + r.Intn(2) {
		legs = append(legs, leg(1+r.Intn(90), 1+r.Intn(2), 1+r.Intn(2), list(1, 2, 9, 10, 11, 11)[r.Intn(6)]))
	}
	return legs
}

// randomNumber returns the number of an arrow, near the best one often.
func randomNumber(r *rand.Rand, best int) int {
	if r.Intn(3) == 0 {
		return r.Intn(best + 1)
	}
	return max(0, best-r.Intn(3))
}

// randomArcher returns an archer who has shot all arrows, often in another order as another archer.
func randomArcher(r *rand.Rand, o api.Round) api.RoundArcher {
	a := api.RoundArcher{Class: max(0, r.Intn(5)-3)}
	if len(o.Archers) > 0 && r.Intn(2) == 0 {
		last := o.Archers[len(o.Archers)-1]
		a.Arrows = slices.Clone(last.Arrows)
		slices.Sort(a.Arrows[:o.Legs[0].Ends*o.Legs[0].Arrows])
		return a
	}
	for _, leg := range o.Legs {
		for range leg.Ends * leg.Arrows {
			a.Arrows = append(a.Arrows, randomNumber(r, leg.Best))
		}
	}
	return a
}

// randomEnd takes some last arrows from an archer who has shot all, or adds a shoot-off, or has the archer out.
func randomEnd(r *rand.Rand, a *api.RoundArcher, most int) {
	if r.Intn(2) == 0 {
		a.Arrows = a.Arrows[:len(a.Arrows)-r.Intn(min(most, len(a.Arrows))+1)]
		a.Out = r.Intn(4) == 0
		return
	}
	for range r.Intn(api.MaxRoundOffs + 1) {
		a.Offs = append(a.Offs, off(9+r.Intn(2), 1+r.Intn(2)))
	}
}

// randomRound returns a round of at most so many archers, of each of whom at most so many arrows are missing.
func randomRound(r *rand.Rand, archers, missing int) api.Round {
	o := api.Round{Legs: randomLegs(r)}
	for i := range r.Intn(archers + 1) {
		a := randomArcher(r, o)
		a.Name = string(rune('a' + i))
		o.Archers = append(o.Archers, a)
	}
	for i := range o.Archers {
		randomEnd(r, &o.Archers[i], missing)
	}
	return o
}

// What follows finds all of it in another way: by all truths, as the chapter describes them.

// bests returns the best number of each arrow of a round.
func bests(r api.Round) []int {
	var all []int
	for _, leg := range r.Legs {
		all = append(all, slices.Repeat(list(leg.Best), leg.Ends*leg.Arrows)...)
	}
	return all
}

// sumOf returns the sum of some arrows.
func sumOf(numbers []int) api.RoundSum {
	s := sum(len(numbers), 0, 0, 0)
	for _, number := range numbers {
		s.Points += min(number, 10)
		if number >= 10 {
			s.Tens++
		}
		if number == 11 {
			s.Inners++
		}
	}
	return s
}

// byList compares two lists of numbers that decide, the first one that differs first, and says which is its index.
func byList(a, b []int) (index, order int) {
	for i := range min(len(a), len(b)) {
		if a[i] != b[i] {
			return i, a[i] - b[i]
		}
	}
	return -1, 0
}

// sumList returns the numbers of a sum that decide.
func sumList(s api.RoundSum) []int { return list(s.Points, s.Tens, s.Inners) }

// offList returns the numbers of a shoot-off that decide.
func offList(offs []api.RoundOff) []int {
	var all []int
	for _, x := range offs {
		all = append(all, x.Number, -x.Far)
	}
	return all
}

// differ returns by what two archers of a class differ, and whether the first is above.
func differ(a, b api.RoundArcher) (api.RoundWhy, bool) {
	if a.Out != b.Out {
		return api.RoundOut, b.Out
	}
	if i, order := byList(sumList(sumOf(a.Arrows)), sumList(sumOf(b.Arrows))); i >= 0 {
		return []api.RoundWhy{api.RoundPoints, api.RoundTens, api.RoundInners}[i], order > 0
	}
	if i, order := byList(offList(a.Offs), offList(b.Offs)); i >= 0 {
		return []api.RoundWhy{api.RoundNumber, api.RoundFar}[i%2], order > 0
	}
	return api.RoundEqual, false
}

func isAbove(r api.Round, one, two int) bool {
	_, is := differ(r.Archers[one], r.Archers[two])
	return is && r.Archers[one].Class == r.Archers[two].Class
}

// rankOf returns the rank of an archer in the class.
func rankOf(r api.Round, archer int) int {
	rank := 1
	for other := range r.Archers {
		if isAbove(r, other, archer) {
			rank++
		}
	}
	return rank
}

// truths yields all truths of a round.
func truths(r api.Round) iter.Seq[api.Round] {
	best := bests(r)
	return func(yield func(truth api.Round) bool) {
		var add func(o api.Round) bool
		add = func(o api.Round) bool {
			for i, a := range o.Archers {
				if a.Out || len(a.Arrows) == len(best) {
					continue
				}
				for number := range best[len(a.Arrows)] + 1 {
					longer := copyRound(o)
					longer.Archers[i].Arrows = append(longer.Archers[i].Arrows, number)
					if !add(longer) {
						return false
					}
				}
				return true
			}
			return yield(o)
		}
		add(r)
	}
}

// manyTruths returns how many truths a round has.
func manyTruths(r api.Round) int {
	many := 1
	for _, a := range r.Archers {
		for _, best := range bests(r)[len(a.Arrows):] {
			if !a.Out {
				many *= best + 1
			}
		}
	}
	return many
}

// randomFew returns a random round that has few truths.
func randomFew(r *rand.Rand, archers, missing int) api.Round {
	for {
		if o := randomRound(r, archers, missing); manyTruths(o) <= 800 {
			return o
		}
	}
}

// possible returns the archer as it can be in all truths, one for each sum.
func possible(r api.Round, archer int) []api.RoundArcher {
	all := []api.RoundArcher{r.Archers[archer]}
	if all[0].Out {
		return all
	}
	for _, best := range bests(r)[len(all[0].Arrows):] {
		var longer []api.RoundArcher
		seen := make(map[api.RoundSum]bool)
		for _, a := range all {
			for number := range best + 1 {
				more := a
				more.Arrows = append(slices.Clone(a.Arrows), number)
				if s := sumOf(more.Arrows); !seen[s] {
					seen[s] = true
					longer = append(longer, more)
				}
			}
		}
		all = longer
	}
	return all
}

// possibleOfAll returns each archer of a round as it can be in all truths.
func possibleOfAll(r api.Round) [][]api.RoundArcher {
	var all [][]api.RoundArcher
	for i := range r.Archers {
		all = append(all, possible(r, i))
	}
	return all
}

// aboveAtMost returns how many archers can be above one at most, and how many are at least, if this one is as it is said.
func aboveAtMost(all [][]api.RoundArcher, archer int, own api.RoundArcher) (most, least int) {
	is := func(x api.RoundArcher) bool { _, is := differ(x, own); return is }
	isNot := func(x api.RoundArcher) bool { return !is(x) }
	for other, some := range all {
		if other == archer || some[0].Class != own.Class {
			continue
		}
		if slices.ContainsFunc(some, is) {
			most++
		}
		if !slices.ContainsFunc(some, isNot) {
			least++
		}
	}
	return most, least
}

// amongBySums returns whether an archer is among the first k, by all sums that are possible, since archers are free of each other.
func amongBySums(all [][]api.RoundArcher, archer, k int) api.Sure {
	is, isNot := false, false
	for _, own := range all[archer] {
		most, least := aboveAtMost(all, archer, own)
		is, isNot = is || least < k, isNot || most >= k
	}
	return sureOf(is, isNot)
}

// sureOf returns what is to be said of something that is so in some truths and not so in others.
func sureOf(is, isNot bool) api.Sure {
	switch {
	case is && isNot:
		return api.Maybe
	case is:
		return api.Yes
	}
	return api.No
}

// cutTo returns a round in which only the first n arrows of each archer who is not out have been shot.
func cutTo(r api.Round, n int) api.Round {
	o := copyRound(r)
	for i, a := range o.Archers {
		if a.Out {
			continue
		}
		o.Archers[i].Arrows = a.Arrows[:min(n, len(a.Arrows))]
		if n < len(bests(r)) {
			o.Archers[i].Offs = nil
		}
	}
	return o
}
