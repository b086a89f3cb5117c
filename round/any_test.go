package round_test

import (
	"math"
	"math/rand"
	"reflect"
	"slices"
	"testing"

	"nock/api"
	"nock/round"
)

// anyNumber returns a number that may be of every kind: great, at a limit, or below 0.
func anyNumber(r *rand.Rand) int {
	numbers := []int{0, 0, 1, 1, 2, 3, 4, 5, 6, 7, 9, 10, 11, 12, 13, 60, 90, 91, 999, 1000, -1, math.MinInt, math.MaxInt}
	return numbers[r.Intn(len(numbers))]
}

func anyList(r *rand.Rand) []int {
	var some []int
	for range r.Intn(6) {
		some = append(some, anyNumber(r))
	}
	return some
}

func anyArcher(r *rand.Rand) api.RoundArcher {
	a := api.RoundArcher{Name: []string{"", "a", "z", "B", "a1"}[r.Intn(5)], Class: anyNumber(r), Out: r.Intn(2) == 0, Arrows: anyList(r)}
	for range r.Intn(5) {
		a.Offs = append(a.Offs, off(anyNumber(r), anyNumber(r)))
	}
	return a
}

// anyRound returns a round that has fouls often, of few things or of many.
func anyRound(r *rand.Rand) api.Round {
	o := randomRound(r, 6, 4)
	switch r.Intn(10) {
	case 0:
		o.Legs[r.Intn(len(o.Legs))] = leg(anyNumber(r), anyNumber(r), anyNumber(r), anyNumber(r))
	case 1:
		o.Legs = append(o.Legs, leg(anyNumber(r), 1, 1, anyNumber(r)))
	case 2:
		o.Legs = o.Legs[1:]
	case 3:
		o.Archers = append(o.Archers, anyArcher(r))
	}
	for range r.Intn(3) {
		if len(o.Archers) == 0 {
			continue
		}
		a := &o.Archers[r.Intn(len(o.Archers))]
		switch r.Intn(8) {
		case 0:
			*a = anyArcher(r)
		case 1:
			a.Name = o.Archers[0].Name
		case 2:
			a.Class = anyNumber(r)
		case 3:
			a.Arrows = append(a.Arrows, anyNumber(r))
		case 4:
			a.Offs = append(a.Offs, off(anyNumber(r), anyNumber(r)))
		case 5:
			a.Out = !a.Out
		}
	}
	return o
}

// zero says whether results, and lists in them, are as they must be beside a foul.
func zero(results ...any) bool {
	for _, x := range results {
		if v := reflect.ValueOf(x); !v.IsZero() && (v.Kind() != reflect.Slice || v.Len() > 0) {
			return false
		}
	}
	return true
}

// result is what a call returned: its foul, and all else.
type result struct {
	f    api.Foul
	rest []any
}

// question is what calls are given beside a round.
type question struct{ archer, two, class, k, n, number int }

// calls calls each function with a round.
func calls(r api.Round, q question) []result {
	many, f1 := round.Arrows(r)
	leg, end, arrow, f2 := round.Place(r, q.n)
	first, f3 := round.Sum(r, q.archer, q.n)
	legs, f4 := round.LegSums(r, q.archer)
	best, f5 := round.Best(r, q.archer)
	why, is, f6 := round.Above(r, q.archer, q.two)
	ranks, f7 := round.Ranks(r, q.class)
	after, f8 := round.After(r, q.class, q.n)
	ties, f9 := round.Ties(r, q.class)
	among, f10 := round.Among(r, q.archer, q.k)
	threats, f11 := round.Threats(r, q.archer)
	n, settled, f12 := round.Settled(r, q.class, q.k)
	points, found, f13 := round.Needs(r, q.archer, q.k)
	shot, f14 := round.Shoot(r, q.archer, q.number)
	less, f15 := round.Withdraw(r, q.archer)
	text, f16 := round.Print(r)
	return []result{
		{round.CheckRound(r), nil}, {f1, []any{many}}, {f2, []any{leg, end, arrow}}, {f3, []any{first}}, {f4, []any{legs}},
		{f5, []any{best}}, {f6, []any{why, is}}, {f7, []any{ranks}}, {f8, []any{after}}, {f9, []any{ties}}, {f10, []any{among}},
		{f11, []any{threats}}, {f12, []any{n, settled}}, {f13, []any{points, found}}, {f14, []any{shot.Legs, shot.Archers}},
		{f15, []any{less.Legs, less.Archers}}, {f16, []any{text}},
	}
}

// Calls with an archer, and with a class, by their places among the results.
var (
	withArcher = []int{3, 4, 5, 6, 10, 11, 13, 14, 15}
	withClass  = []int{7, 8, 9, 12}
)

// checkResults looks for results beside fouls, and for fouls that come before that of the round.
func checkResults(t *testing.T, r api.Round, q question, results []result) {
	t.Helper()
	for i, x := range results {
		if x.f != api.Fair && !zero(x.rest...) {
			t.Fatal("results beside a foul", r, q, i, x)
		}
		if results[0].f != api.Fair && x.f != results[0].f {
			t.Fatal("another foul before that of the round", r, q, i, x, results[0].f)
		}
	}
	if n := results[12].rest; n[1] == false && n[0] != 0 {
		t.Fatal("a number that was not found", r, q, n)
	}
	if n := results[13].rest; n[1] == false && n[0] != 0 {
		t.Fatal("points that were not found", r, q, n)
	}
}

// P1, R4: any arguments are answered, in the same way each time, and are not changed.
func TestAnyArguments(t *testing.T) {
	r := rand.New(rand.NewSource(51))
	fouls := make(map[api.Foul]int)
	for range 4000 {
		o := anyRound(r)
		q := question{r.Intn(5), r.Intn(5), r.Intn(2), 1 + r.Intn(3), r.Intn(4), r.Intn(12)}
		if r.Intn(3) == 0 {
			q = question{anyNumber(r), anyNumber(r), anyNumber(r), anyNumber(r), anyNumber(r), anyNumber(r)}
		}
		old := copyRound(o)
		results := calls(o, q)
		checkResults(t, o, q, results)
		if !sameRound(o, old) {
			t.Fatal("an argument was changed", o, old, q)
		}
		if !reflect.DeepEqual(results, calls(o, q)) {
			t.Fatal("another answer to the same question", o, q)
		}
		fouls[results[0].f]++
	}
	for _, f := range []api.Foul{api.Fair, api.OffLimits, api.BadCount, api.BadName, api.Twice, api.OutOfOrder} {
		if fouls[f] == 0 {
			t.Error("no round had the foul", f)
		}
	}
}

// P1: the index of an archer is examined before what comes after it, and a class, too.
func TestFirstArgumentFirst(t *testing.T) {
	for _, wrong := range []int{-1, 5, math.MinInt, math.MaxInt} {
		results := calls(example(), question{wrong, wrong, wrong, wrong, wrong + 8, wrong})
		for _, i := range withArcher {
			if results[i].f != api.Unknown || !zero(results[i].rest...) {
				t.Error(wrong, i, results[i])
			}
		}
		for _, i := range withClass {
			if results[i].f != api.OffLimits || !zero(results[i].rest...) {
				t.Error(wrong, i, results[i])
			}
		}
	}
}

// P1: rounds as great as they may be are answered, and greater ones have a foul.
func TestGreat(t *testing.T) {
	half := great()
	for i := range half.Archers {
		half.Archers[i].Arrows = slices.Repeat(list(9, 10, 11), 10)
	}
	full := great()
	for i := range full.Archers {
		full.Archers[i].Arrows = slices.Repeat(list(11-i), 60)
	}
	for _, r := range []api.Round{great(), half, full} {
		shot := api.Fair
		if len(r.Archers[0].Arrows) == 60 {
			shot = api.OutOfOrder
		}
		for i, x := range calls(r, question{5, 0, 0, 6, 59, 11}) {
			if want := map[int]api.Foul{14: shot}[i]; x.f != want {
				t.Error(i, x.f)
			}
		}
	}
	for _, r := range []api.Round{{Legs: make([]api.RoundLeg, 1<<20)}, {Legs: great().Legs, Archers: make([]api.RoundArcher, 1<<20)}} {
		for i, x := range calls(r, question{}) {
			if x.f != api.BadCount {
				t.Error(i, x.f)
			}
		}
	}
}

// P1: any text is answered.
func TestAnyText(t *testing.T) {
	r := rand.New(rand.NewSource(52))
	parts := []string{leg0, in, second, off0, "archer c 1 in ", "leg ", "off ", "archer ", "in", "out", " ", " ", "\n", "\n", "1", "2", "/", "/3", "0", "-", "..", "\xff", "\x00", "999999999"}
	for range 5000 {
		text := ""
		if r.Intn(2) == 0 {
			text = leg0 + in
		}
		for range r.Intn(20) {
			text += parts[r.Intn(len(parts))]
		}
		o, line, f := round.Parse(text)
		if f != api.Fair && !sameRound(o, api.Round{}) || f != api.BadForm && line != 0 || f == api.BadForm && line == 0 {
			t.Fatalf("%q: %v %d %d", text, o, line, f)
		}
	}
}

// R3: nil and an empty slice are the same.
func TestNilAndEmpty(t *testing.T) {
	a, b := short(1, 10, nil, nil), short(1, 10, list(), list())
	for i := range b.Archers {
		b.Archers[i].Offs = []api.RoundOff{}
	}
	if x, y := calls(a, question{0, 1, 0, 1, 0, 0}), calls(b, question{0, 1, 0, 1, 0, 0}); !sameResults(x, y) {
		t.Error(x, y)
	}
	a.Archers, b.Archers = nil, []api.RoundArcher{}
	if x, y := calls(a, question{}), calls(b, question{}); !sameResults(x, y) {
		t.Error(x, y)
	}
	a.Legs, b.Legs = nil, []api.RoundLeg{}
	if x, y := calls(a, question{}), calls(b, question{}); !sameResults(x, y) {
		t.Error(x, y)
	}
}

// sameResults says whether results are the same, though a list of one may be nil and that of the other one empty.
func sameResults(a, b []result) bool {
	return slices.EqualFunc(a, b, func(x, y result) bool {
		return x.f == y.f && slices.EqualFunc(x.rest, y.rest, sameValue)
	})
}

func sameValue(x, y any) bool {
	a, ok := x.([]api.RoundArcher)
	b, also := y.([]api.RoundArcher)
	if ok && also {
		return slices.EqualFunc(a, b, sameArcher)
	}
	return zero(x) && zero(y) || reflect.DeepEqual(x, y)
}

// R4: results share no memory with each other, nor do two answers.
func TestResultsShareNothing(t *testing.T) {
	r := short(1, 10, list(8), list(9), list(9), list(8))
	for range 2 {
		ties, f := round.Ties(r, 0)
		fair(t, f)
		if !sameLists(ties, lists(list(1, 2), list(0, 3))) {
			t.Error(ties)
		}
		for i := range ties {
			ties[i] = append(ties[i], 99)
			ties[i][0] = -1
		}
	}
	text := leg0 + "archer a 0 in 1/2\noff 3 4\narcher b 0 in 1/2\noff 3 4\n"
	o, _, f := round.Parse(text)
	fair(t, f)
	o.Archers[0].Arrows[0], o.Archers[0].Offs[0] = 7, off(7, 7)
	if o.Archers[1].Arrows[0] != 1 || o.Archers[1].Offs[0] != off(3, 4) {
		t.Error(o)
	}
	if o, _, f = round.Parse(text); f != api.Fair || o.Archers[0].Arrows[0] != 1 || o.Archers[0].Offs[0] != off(3, 4) {
		t.Error(o, f)
	}
}
