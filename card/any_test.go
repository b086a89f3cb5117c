package card_test

import (
	"math"
	"math/rand"
	"reflect"
	"slices"
	"testing"

	"nock/api"
	"nock/card"
)

// anyNumber returns a number that may be of every kind: great, at a limit, or below 0.
func anyNumber(r *rand.Rand) int {
	numbers := []int{0, 0, 1, 1, 2, 3, 4, 5, 6, 8, 9, 10, 11, 12, 13, -1, -2, math.MinInt, math.MaxInt}
	return numbers[r.Intn(len(numbers))]
}

func anyList(r *rand.Rand) []int {
	var some []int
	for range r.Intn(6) {
		some = append(some, anyNumber(r))
	}
	switch r.Intn(4) {
	case 0:
		slices.Sort(some)
		return slices.Compact(some)
	case 1:
		return highestFirst(some)
	}
	return some
}

func anyLists(r *rand.Rand) [][]int {
	var all [][]int
	for range r.Intn(6) {
		all = append(all, anyList(r))
	}
	return all
}

// anyCard returns a card that has fouls often, of few things or of many.
func anyCard(r *rand.Rand) api.CardSheet {
	c := randomCard(r)
	switch r.Intn(8) {
	case 0:
		c.Rule.Arrows = anyNumber(r)
	case 1:
		c.Rule.Slips = anyNumber(r)
	case 2:
		c.Ends = append(c.Ends, end(anyLists(r), anyLists(r)...))
	}
	for range r.Intn(3) {
		if len(c.Ends) == 0 {
			continue
		}
		e := &c.Ends[r.Intn(len(c.Ends))]
		switch r.Intn(4) {
		case 0:
			e.Marks = append(e.Marks, anyList(r))
			slices.Reverse(e.Marks)
			e.Marks = e.Marks[:len(e.Marks)-1]
		case 3:
			e.Marks = anyLists(r)
		case 1:
			e.Told = append(e.Told, anyList(r))
		case 2:
			e.Told = anyLists(r)
		}
	}
	return c
}

// zero says whether results, and lists in them, are as they must be beside a foul.
func zero(results ...any) bool {
	for _, x := range results {
		if v := reflect.ValueOf(x); !v.IsZero() && (v.Kind() != reflect.Slice || v.Len() > 0) {
			return false
		}
	}
	return true
}

// result is what a call returned: its foul, and all else.
type result struct {
	f    api.Foul
	rest []any
}

// question is what calls are given beside a card.
type question struct {
	end, arrow, told int
	list             []int
	other            api.CardSheet
}

// calls calls each function with a card.
func calls(c api.CardSheet, q question) []result {
	lists, f1 := card.Lists(c, q.end)
	marks, f2 := card.Marks(c, q.end, q.arrow)
	totals, f3 := card.Totals(c, q.end)
	all, f4 := card.All(c)
	official, f5 := card.Official(c)
	doubts, f6 := card.Doubts(c)
	decide, f7 := card.Decide(c, q.end)
	looked, f8 := card.Look(c, q.end, q.arrow, q.list)
	told, f9 := card.Tell(c, q.end, q.list)
	slips, f10 := card.Slips(c, q.end)
	wrong, f11 := card.Wrong(c, q.end, q.told)
	beats, f12 := card.Beats(c, q.other)
	text, f13 := card.Print(c)
	return []result{
		{card.CheckCard(c), nil}, {f1, []any{lists}}, {f2, []any{marks}}, {f3, []any{totals}}, {f4, []any{all}}, {f5, []any{official}},
		{f6, []any{doubts}}, {f7, []any{decide}}, {f8, []any{looked.Rule, looked.Ends}}, {f9, []any{told.Rule, told.Ends}},
		{f10, []any{slips}}, {f11, []any{wrong}}, {f12, []any{beats}}, {f13, []any{text}},
	}
}

// checkResults looks for results beside fouls, and for fouls that come before that of the card.
func checkResults(t *testing.T, c api.CardSheet, q question, results []result) {
	t.Helper()
	for i, x := range results {
		if x.f != api.Fair && !zero(x.rest...) {
			t.Fatal("results beside a foul", c, q, i, x)
		}
		if results[0].f != api.Fair && x.f != results[0].f {
			t.Fatal("another foul before that of the card", c, q, i, x, results[0].f)
		}
	}
}

// P1, R4: any arguments are answered, in the same way each time, and are not changed.
func TestAnyArguments(t *testing.T) {
	r := rand.New(rand.NewSource(81))
	fouls := make(map[api.Foul]int)
	for range 4000 {
		c := anyCard(r)
		q := question{end: r.Intn(4), arrow: r.Intn(4), told: r.Intn(3), list: anyList(r), other: anyCard(r)}
		if r.Intn(3) == 0 {
			q.end, q.arrow, q.told = anyNumber(r), anyNumber(r), anyNumber(r)
		}
		oldCard, oldOther, oldList := copyCard(c), copyCard(q.other), slices.Clone(q.list)
		results := calls(c, q)
		checkResults(t, c, q, results)
		if !sameCard(c, oldCard) || !sameCard(q.other, oldOther) || !slices.Equal(q.list, oldList) {
			t.Fatal("an argument was changed", c, q)
		}
		if !reflect.DeepEqual(results, calls(c, q)) {
			t.Fatal("another answer to the same question", c, q)
		}
		if other := card.CheckCard(q.other); results[0].f == api.Fair && other != api.Fair && results[12].f != other {
			t.Fatal("another foul before that of the second card", c, q, results[12])
		}
		fouls[results[0].f]++
	}
	for _, f := range []api.Foul{api.Fair, api.OffLimits, api.BadCount, api.OutOfOrder} {
		if fouls[f] == 0 {
			t.Error("no card had the foul", f)
		}
	}
}

// P1, R4: any lists are answered by Changes, and are not changed.
func TestAnyLists(t *testing.T) {
	r := rand.New(rand.NewSource(82))
	fouls := make(map[api.Foul]int)
	for range 5000 {
		a, b := anyList(r), anyList(r)
		oldA, oldB := slices.Clone(a), slices.Clone(b)
		l, f := card.Changes(a, b)
		if f != api.Fair && len(l) > 0 || !slices.Equal(a, oldA) || !slices.Equal(b, oldB) {
			t.Fatal(a, b, l, f)
		}
		fouls[f]++
	}
	for _, f := range []api.Foul{api.Fair, api.OffLimits, api.BadCount, api.OutOfOrder} {
		if fouls[f] == 0 {
			t.Error("no lists had the foul", f)
		}
	}
}

// P1: the index of an end is examined before what comes after it.
func TestUnknownFirst(t *testing.T) {
	for _, end := range []int{-1, 2, math.MinInt, math.MaxInt} {
		results := calls(misfit(), question{end: end, list: list(12, 13)})
		for _, i := range []int{1, 2, 3, 7, 8, 9, 10, 11} {
			if results[i].f != api.Unknown || !zero(results[i].rest...) {
				t.Error(end, i, results[i])
			}
		}
	}
}

// P1: cards and lists as great as they may be are answered, and greater ones have a foul.
func TestGreat(t *testing.T) {
	c := greatCard()
	for i := range c.Ends {
		c.Ends[i].Told = lists(list(11, 8, 4, 0), list(11, 11, 11, 11), list(0, 0, 0, 0))
	}
	c.Rule.Slips = 4
	for i, x := range calls(c, question{end: 3, arrow: 3, told: 2, list: allMarks(), other: c}) {
		if want := map[int]api.Foul{9: api.BadCount}[i]; x.f != want {
			t.Error(i, x.f)
		}
	}
	if l := listsOf(t, c, 0); len(l) != 1365 {
		t.Error(len(l))
	}
	long := make([]int, 1<<20)
	c = sheet(1, 0, end(lists(long)))
	for i, x := range calls(c, question{list: long, other: c}) {
		if x.f != api.BadCount {
			t.Error(i, x.f)
		}
	}
	for i, x := range calls(one(9), question{list: long, other: sheet(1, 1, make([]api.CardEnd, 1<<20)...)}) {
		if want := map[int]api.Foul{8: api.BadCount, 9: api.BadCount, 11: api.Unknown, 12: api.BadCount}[i]; x.f != want {
			t.Error(i, x.f)
		}
	}
	if l, f := card.Changes(long, long); len(l) > 0 || f != api.BadCount {
		t.Error(l, f)
	}
}

// P1: any text is answered.
func TestAnyText(t *testing.T) {
	r := rand.New(rand.NewSource(83))
	parts := []string{"card 2 1\n", "end\n", "arrow 8/9\n", "told 9/8\n", "arrow ", "told ", "card ", "end", " ", " ", "\n", "\n", "1", "2", "/", "/3", "0", "-", "..", "\xff", "\x00", "999999999"}
	for range 5000 {
		text := ""
		if r.Intn(2) == 0 {
			text = bare
		}
		for range r.Intn(20) {
			text += parts[r.Intn(len(parts))]
		}
		c, line, f := card.Parse(text)
		if f != api.Fair && !sameCard(c, api.CardSheet{}) || f != api.BadForm && line != 0 || f == api.BadForm && line == 0 && text != "" {
			t.Fatalf("%q: %v %d %d", text, c, line, f)
		}
	}
}

// R3: nil and an empty slice are the same.
func TestNilAndEmpty(t *testing.T) {
	c := sheet(1, 1, end(lists(list(9, 10))), end(nil))
	o := sheet(1, 1, end(lists(list(9, 10)), lists()...), end(lists()))
	o.Ends[0].Told = lists()
	for range 2 {
		if a, b := calls(c, question{other: c}), calls(o, question{list: list(), other: o}); !reflect.DeepEqual(a, b) {
			t.Error(a, b)
		}
		c.Ends, o.Ends = c.Ends[:1], o.Ends[:1]
	}
	c.Ends, o.Ends = nil, []api.CardEnd{}
	if a, b := calls(c, question{other: c}), calls(o, question{list: list(), other: o}); !reflect.DeepEqual(a, b) {
		t.Error(a, b)
	}
}

// R4: results share no memory with each other, nor do two answers.
func TestResultsShareNothing(t *testing.T) {
	c := exampleCard()
	first := listsOf(t, c, 1)
	for i := range first {
		first[i] = append(first[i], 99)
		first[i][0] = -1
	}
	if again := listsOf(t, c, 1); !sameLists(again, lists(list(10, 6, 6), list(10, 7, 6), list(10, 7, 7))) {
		t.Error(again)
	}
	text := "card 2 0\nend\narrow 1\narrow 1\ntold 1/1\ntold 1/1\n"
	o, _, f := card.Parse(text)
	fair(t, f)
	for _, all := range [][][]int{o.Ends[0].Marks, o.Ends[0].Told} {
		all[0][0] = 7
		if all[1][0] != 1 {
			t.Error(o)
		}
	}
	if o, _, f = card.Parse(text); f != api.Fair || o.Ends[0].Marks[0][0] != 1 {
		t.Error(o, f)
	}
}
