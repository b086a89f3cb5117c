package arrow_test

import (
	"math"
	"math/rand"
	"reflect"
	"slices"
	"testing"

	"nock/api"
	"nock/arrow"
)

// anyNumber returns a number that may be of every kind: great, at a limit, or below 0.
func anyNumber(r *rand.Rand) int {
	numbers := []int{0, 0, 1, 1, 2, 3, 4, 5, 8, 9, 90, 91, 999, 1000, 9999, 10000, 99999, 100000, -1, -2, math.MinInt, math.MaxInt}
	return numbers[r.Intn(len(numbers))]
}

func anySpan(r *rand.Rand) api.Span { return to(anyNumber(r), anyNumber(r)) }

func anyName(r *rand.Rand) string {
	names := []string{"a", "b", "c1", "d", "e", "f", "", "A", "1", "\xff\xfe", "abcdefghijklm", "a b"}
	return names[r.Intn(len(names))]
}

func anyStock(r *rand.Rand) api.ArrowStock {
	s := randomStock(r, r.Intn(11))
	if r.Intn(2) == 0 && len(s.Shafts) > 0 {
		s.Shafts[r.Intn(len(s.Shafts))] = api.ArrowShaft{Name: anyName(r), Spine: anySpan(r), Length: anySpan(r), Weight: anySpan(r)}
	}
	if r.Intn(4) == 0 {
		s.Rule = api.ArrowRule{Spine: anyNumber(r), Length: anyNumber(r), Weight: anyNumber(r), Many: anyNumber(r)}
	}
	return s
}

func anyCard(r *rand.Rand) api.SightCard {
	c := randomCard(r, r.Intn(10))
	if r.Intn(2) == 0 && len(c.Shots) > 0 {
		c.Shots[r.Intn(len(c.Shots))] = api.SightShot{At: anyNumber(r), Mark: anySpan(r), Wind: anyNumber(r), Light: anyNumber(r)}
	}
	if r.Intn(4) == 0 {
		c.Rule = api.SightRule{Least: anyNumber(r), Most: anyNumber(r), Wind: anyNumber(r), Light: anyNumber(r)}
	}
	return c
}

// zero says whether results, and lists in them, are as they must be beside a foul.
func zero(results ...any) bool {
	for _, x := range results {
		if v := reflect.ValueOf(x); !v.IsZero() && (v.Kind() != reflect.Slice || v.Len() > 0) {
			return false
		}
	}
	return true
}

// result is what a call returned: its foul, and all else.
type result struct {
	f    api.Foul
	rest []any
}

func stockCalls(s api.ArrowStock, list []int, n, m int, x api.Span) []result {
	match, f1 := arrow.Match(s, list)
	apart, f2 := arrow.Apart(s, list)
	sets, f3 := arrow.Sets(s)
	share, left, f4 := arrow.Fill(s)
	without, f5 := arrow.Without(s, n)
	measured, f6 := arrow.Measure(s, n, api.ArrowWhat(m), x)
	text, f7 := arrow.PrintStock(s)
	return []result{
		{arrow.CheckStock(s), nil}, {f1, []any{match}}, {f2, []any{apart}}, {f3, []any{sets}}, {f4, []any{share, left}},
		{f5, []any{without}}, {f6, []any{measured.Rule, measured.Shafts}}, {f7, []any{text}},
	}
}

func cardCalls(c api.SightCard, a, b, d int) []result {
	wide, f1 := arrow.Wide(c, a)
	fits, f2 := arrow.Fits(c)
	clash, f3 := arrow.Clash(c)
	trust, f4 := arrow.Trust(c)
	span, f5 := arrow.MarkAt(c, a)
	hits, f6 := arrow.Hits(c, a, b, d)
	best, off, f7 := arrow.Best(c, a)
	at, widest, f8 := arrow.Widest(c, a, b)
	matter, f9 := arrow.Matter(c)
	text, f10 := arrow.PrintCard(c)
	return []result{
		{arrow.CheckCard(c), nil}, {f1, []any{wide}}, {f2, []any{fits}}, {f3, []any{clash}}, {f4, []any{trust}}, {f5, []any{span}},
		{f6, []any{hits}}, {f7, []any{best, off}}, {f8, []any{at, widest}}, {f9, []any{matter}}, {f10, []any{text}},
	}
}

// checkResults looks for results beside fouls, and for fouls that come before that of the first call.
func checkResults(t *testing.T, what any, results []result) {
	t.Helper()
	for i, x := range results {
		if x.f != api.Fair && !zero(x.rest...) {
			t.Fatal("results beside a foul", what, i, x)
		}
		if results[0].f != api.Fair && x.f != results[0].f {
			t.Fatal("another foul before that of the first argument", what, i, x, results[0].f)
		}
	}
}

// P1, R4: any arguments are answered, in the same way each time, and are not changed.
func TestAnyArguments(t *testing.T) {
	r := rand.New(rand.NewSource(18))
	for range 2000 {
		s, c, x := anyStock(r), anyCard(r), anySpan(r)
		list := make([]int, r.Intn(5))
		for i := range list {
			list[i] = anyNumber(r)
		}
		a, b, d := anyNumber(r), anyNumber(r), anyNumber(r)
		oldStock, oldCard, oldList := copyStock(s), copyCard(c), slices.Clone(list)
		stockResults, cardResults := stockCalls(s, list, a, b, x), cardCalls(c, a, b, d)
		checkResults(t, s, stockResults)
		checkResults(t, c, cardResults)
		if !sameStock(s, oldStock) || !sameCard(c, oldCard) || !slices.Equal(list, oldList) {
			t.Fatal("an argument was changed", s, c, list)
		}
		if !reflect.DeepEqual(stockResults, stockCalls(s, list, a, b, x)) || !reflect.DeepEqual(cardResults, cardCalls(c, a, b, d)) {
			t.Fatal("another answer to the same question", s, c, list, a, b, d, x)
		}
	}
}

// P1: any text is answered.
func TestAnyText(t *testing.T) {
	r := rand.New(rand.NewSource(19))
	parts := []string{"rule", "shaft", "sight", "shot", " ", " ", " ", "\n", "\n", "1", "2", "3..4", "0", "-", "..", "a", "\xff", "\x00", "999999999"}
	for range 5000 {
		text := ""
		for range r.Intn(20) {
			text += parts[r.Intn(len(parts))]
		}
		s, line, f := arrow.ParseStock(text)
		if f != api.Fair && !sameStock(s, api.ArrowStock{}) || f != api.BadForm && line != 0 {
			t.Fatalf("%q: %v %d %d", text, s, line, f)
		}
		c, line, f := arrow.ParseCard(text)
		if f != api.Fair && !sameCard(c, api.SightCard{}) || f != api.BadForm && line != 0 {
			t.Fatalf("%q: %v %d %d", text, c, line, f)
		}
	}
}

// R3: nil and an empty slice are the same.
func TestNilAndEmpty(t *testing.T) {
	rule := api.ArrowRule{Many: 2}
	a := stockCalls(api.ArrowStock{Rule: rule}, nil, 0, 0, one(0))
	b := stockCalls(api.ArrowStock{Rule: rule, Shafts: []api.ArrowShaft{}}, []int{}, 0, 0, one(0))
	if !reflect.DeepEqual(a, b) {
		t.Error(a, b)
	}
	c, d := cardCalls(api.SightCard{}, 0, 0, 0), cardCalls(api.SightCard{Shots: []api.SightShot{}}, 0, 0, 0)
	if !reflect.DeepEqual(c, d) {
		t.Error(c, d)
	}
}
