package card_test

import (
	"cmp"
	"math/rand"
	"slices"
	"testing"

	"nock/api"
	"nock/card"
)

func list(marks ...int) []int { return marks }

func lists(all ...[]int) [][]int { return all }

func total(value, inner int) api.FaceTotal { return api.FaceTotal{Value: value, Inner: inner} }

// plain returns totals without inner tens.
func plain(values ...int) []api.FaceTotal {
	var all []api.FaceTotal
	for _, value := range values {
		all = append(all, total(value, 0))
	}
	return all
}

func place(end, arrow int) api.CardPlace { return api.CardPlace{End: end, Arrow: arrow} }

func change(from, to int) api.CardChange { return api.CardChange{From: from, To: to} }

// sheet returns a card by its rule and its ends.
func sheet(arrows, slips int, ends ...api.CardEnd) api.CardSheet {
	return api.CardSheet{Rule: api.CardRule{Arrows: arrows, Slips: slips}, Ends: ends}
}

// end returns an end by what was seen of its arrows and what was told.
func end(marks [][]int, told ...[]int) api.CardEnd { return api.CardEnd{Marks: marks, Told: told} }

// exampleCard is the card K of the chapter.
func exampleCard() api.CardSheet {
	return sheet(3, 1,
		end(lists(list(10, 11), list(8, 9), list(9)), list(10, 9, 9), list(10, 9, 8)),
		end(lists(list(6, 7), list(6, 7), list(10))),
	)
}

// with returns the example with a change.
func with(change func(c *api.CardSheet)) api.CardSheet {
	c := exampleCard()
	change(&c)
	return c
}

// misfit is the example without slips, so that its first end does not fit.
func misfit() api.CardSheet {
	return with(func(c *api.CardSheet) { c.Rule.Slips = 0 })
}

// allMarks are the marks of an arrow of which nothing was seen.
func allMarks() []int {
	return list(0, 1, 2, 3, 4, 5, 6, 7, 8, 9, 10, 11)
}

// greatCard is a card as great as it may be, of which nothing is known.
func greatCard() api.CardSheet {
	c := sheet(api.MaxCardArrows, 0)
	for range api.MaxCardEnds {
		c.Ends = append(c.Ends, end(lists(allMarks(), allMarks(), allMarks(), allMarks())))
	}
	return c
}

func copyLists(all [][]int) [][]int {
	var o [][]int
	for _, some := range all {
		o = append(o, slices.Clone(some))
	}
	return o
}

func copyCard(c api.CardSheet) api.CardSheet {
	o := api.CardSheet{Rule: c.Rule}
	for _, e := range c.Ends {
		o.Ends = append(o.Ends, end(copyLists(e.Marks), copyLists(e.Told)...))
	}
	return o
}

func sameLists(a, b [][]int) bool { return slices.EqualFunc(a, b, slices.Equal[[]int]) }

func sameEnd(a, b api.CardEnd) bool { return sameLists(a.Marks, b.Marks) && sameLists(a.Told, b.Told) }

func sameCard(a, b api.CardSheet) bool {
	return a.Rule == b.Rule && slices.EqualFunc(a.Ends, b.Ends, sameEnd)
}

// fair stops a test if there is a foul.
func fair(t *testing.T, f api.Foul) {
	t.Helper()
	if f != api.Fair {
		t.Fatal("foul", f)
	}
}

func listsOf(t *testing.T, c api.CardSheet, end int) [][]int {
	t.Helper()
	l, f := card.Lists(c, end)
	fair(t, f)
	return l
}

func marksOf(t *testing.T, c api.CardSheet, end, arrow int) []int {
	t.Helper()
	l, f := card.Marks(c, end, arrow)
	fair(t, f)
	return l
}

func totalsOf(t *testing.T, c api.CardSheet, end int) []api.FaceTotal {
	t.Helper()
	l, f := card.Totals(c, end)
	fair(t, f)
	return l
}

func allOf(t *testing.T, c api.CardSheet) []api.FaceTotal {
	t.Helper()
	l, f := card.All(c)
	fair(t, f)
	return l
}

func doubtsOf(t *testing.T, c api.CardSheet) []api.CardPlace {
	t.Helper()
	l, f := card.Doubts(c)
	fair(t, f)
	return l
}

func slipsOf(t *testing.T, c api.CardSheet, end int) int {
	t.Helper()
	n, f := card.Slips(c, end)
	fair(t, f)
	return n
}

// randomMark returns a mark near the ends of what is possible often, where inner tens are.
func randomMark(r *rand.Rand) int {
	if r.Intn(3) == 0 {
		return r.Intn(api.MaxCardMark + 1)
	}
	return []int{0, 1, 9, 10, 10, 11, 11}[r.Intn(7)]
}

// randomTold returns a list of some marks, in which some are told wrong.
func randomTold(r *rand.Rand, marks []int) []int {
	told := slices.Clone(marks)
	for range r.Intn(3) {
		told[r.Intn(len(told))] = randomMark(r)
	}
	return highestFirst(told)
}

func randomEnd(r *rand.Rand, arrows int) api.CardEnd {
	var e api.CardEnd
	var truth []int
	for range arrows {
		some := list(randomMark(r))
		truth = append(truth, some[0])
		for range r.Intn(3) {
			some = append(some, randomMark(r))
		}
		slices.Sort(some)
		e.Marks = append(e.Marks, slices.Compact(some))
	}
	for range r.Intn(api.MaxCardTold + 1) {
		e.Told = append(e.Told, randomTold(r, truth))
	}
	return e
}

// randomCard returns a card whose ends have few truths, or none.
func randomCard(r *rand.Rand) api.CardSheet {
	arrows := 1 + r.Intn(api.MaxCardArrows)
	c := sheet(arrows, r.Intn(arrows+1))
	for range r.Intn(api.MaxCardEnds + 1) {
		c.Ends = append(c.Ends, randomEnd(r, arrows))
	}
	return c
}

// randomFit returns a card whose ends fit.
func randomFit(r *rand.Rand) api.CardSheet {
	for {
		if c := randomCard(r); fits(c) {
			return c
		}
	}
}

// What follows finds all of it in another way: by all truths, as the chapter describes them.

func highestFirst(marks []int) []int {
	high := slices.Clone(marks)
	slices.Sort(high)
	slices.Reverse(high)
	return high
}

// seen returns all combinations of marks that arrows can have by what was seen of them.
func seen(e api.CardEnd) [][]int {
	all := lists(list())
	for _, some := range e.Marks {
		var longer [][]int
		for _, before := range all {
			for _, mark := range some {
				longer = append(longer, append(slices.Clone(before), mark))
			}
		}
		all = longer
	}
	return all
}

// wrongPlaces returns in how many places a list that is told differs from the list of some marks.
func wrongPlaces(marks, told []int) int {
	n := 0
	for i, mark := range highestFirst(marks) {
		if told[i] != mark {
			n++
		}
	}
	return n
}

// slipsFor returns how many slips an end needs if its arrows have some marks.
func slipsFor(e api.CardEnd, marks []int) int {
	most := 0
	for _, told := range e.Told {
		most = max(most, wrongPlaces(marks, told))
	}
	return most
}

// truths returns the marks of all arrows in each truth of an end.
func truths(c api.CardSheet, end int) [][]int {
	var all [][]int
	for _, marks := range seen(c.Ends[end]) {
		if slipsFor(c.Ends[end], marks) <= c.Rule.Slips {
			all = append(all, marks)
		}
	}
	return all
}

func fits(c api.CardSheet) bool {
	for i := range c.Ends {
		if len(truths(c, i)) == 0 {
			return false
		}
	}
	return true
}

// totalOf returns the total of some marks.
func totalOf(marks []int) api.FaceTotal {
	var sum api.FaceTotal
	for _, mark := range marks {
		if mark == 11 {
			sum.Inner, mark = sum.Inner+1, 10
		}
		sum.Value += mark
	}
	return sum
}

// byTotal compares totals: the least one is first.
func byTotal(a, b api.FaceTotal) int {
	if a.Value != b.Value {
		return cmp.Compare(a.Value, b.Value)
	}
	return cmp.Compare(a.Inner, b.Inner)
}

// once returns the elements of a list, each once, in their order.
func once[T comparable](all []T, compare func(a, b T) int) []T {
	some := slices.Clone(all)
	slices.SortFunc(some, compare)
	return slices.Compact(some)
}

// totalsIn returns the totals of all truths of an end, the least first.
func totalsIn(c api.CardSheet, end int) []api.FaceTotal {
	var all []api.FaceTotal
	for _, marks := range truths(c, end) {
		all = append(all, totalOf(marks))
	}
	return once(all, byTotal)
}

// totalsOfAll returns the totals of all truths of a card, the least first.
func totalsOfAll(c api.CardSheet) []api.FaceTotal {
	all := plain(0)
	for i := range c.Ends {
		var more []api.FaceTotal
		for _, x := range all {
			for _, y := range totalsIn(c, i) {
				more = append(more, total(x.Value+y.Value, x.Inner+y.Inner))
			}
		}
		all = once(more, byTotal)
	}
	return all
}

// sureOf returns what is to be said of something that is so in some truths and not so in others.
func sureOf(is, isNot bool) api.Sure {
	switch {
	case is && isNot:
		return api.Maybe
	case is:
		return api.Yes
	}
	return api.No
}

// isPart says whether all elements of one list are in another one.
func isPart[T comparable](part, all []T) bool {
	for _, x := range part {
		if !slices.Contains(all, x) {
			return false
		}
	}
	return true
}

// hasList says whether a list is one of some lists.
func hasList(all [][]int, one []int) bool {
	return slices.ContainsFunc(all, func(some []int) bool { return slices.Equal(some, one) })
}
