package bracket_test

import (
	"math"
	"math/rand"
	"reflect"
	"slices"
	"testing"

	"nock/api"
	"nock/bracket"
)

// anyNumber returns a number that may be of every kind: great, at a limit, or below 0.
func anyNumber(r *rand.Rand) int {
	return pick(r, list(0, 0, 1, 1, 2, 3, 4, 5, 6, 7, 8, 9, 59, 60, 61, 999, 1000, -1, math.MinInt, math.MaxInt))
}

func anyPairs(r *rand.Rand) []api.BracketPair {
	var all []api.BracketPair
	for range r.Intn(7) {
		all = append(all, api.BracketPair{One: anyNumber(r), Two: anyNumber(r)})
	}
	return all
}

func anyResult(r *rand.Rand) api.BracketResult {
	return api.BracketResult{Match: anyNumber(r), One: anyNumber(r), Two: anyNumber(r), Sets: anyPairs(r), Offs: anyPairs(r)}
}

// breakResult changes something of a result, so that it has a foul often.
func breakResult(r *rand.Rand, x *api.BracketResult) {
	switch r.Intn(8) {
	case 0:
		*x = anyResult(r)
	case 1:
		x.Match = anyNumber(r)
	case 2:
		x.One = anyNumber(r)
	case 3:
		x.One, x.Two = x.Two, x.One
	case 4:
		x.Sets = anyPairs(r)
	case 5:
		x.Offs = anyPairs(r)
	case 6:
		if len(x.Sets) > 0 {
			x.Sets = x.Sets[1:]
		}
	}
}

// anyBook returns a bracket that has fouls often, of few things or of many.
func anyBook(r *rand.Rand) api.BracketBook {
	b := randomBook(r, 8)
	switch r.Intn(12) {
	case 0:
		b.Sets = anyNumber(r)
	case 1:
		b.Seeds = b.Seeds[:r.Intn(len(b.Seeds))]
	case 2:
		b.Seeds = append(b.Seeds, "x", "y")
	case 3:
		b.Seeds[r.Intn(len(b.Seeds))] = pick(r, []string{"", "a", "b", "B", "1", "a1", "a\n", "\xff"})
	case 4:
		b.Results = append(b.Results, anyResult(r))
	case 5:
		return api.BracketBook{Sets: anyNumber(r), Seeds: b.Seeds[2:], Results: []api.BracketResult{anyResult(r)}}
	}
	for range r.Intn(3) {
		if len(b.Results) > 0 {
			breakResult(r, &b.Results[r.Intn(len(b.Results))])
		}
	}
	return b
}

// zero says whether results, and lists in them, are as they must be beside a foul.
func zero(results ...any) bool {
	for _, x := range results {
		if v := reflect.ValueOf(x); !v.IsZero() && (v.Kind() != reflect.Slice || v.Len() > 0) {
			return false
		}
	}
	return true
}

// result is what a call returned: its foul, and all else.
type result struct {
	f    api.Foul
	rest []any
}

// question is what calls are given beside a bracket.
type question struct {
	match, seed, round int
	told               api.BracketResult
}

// calls calls each function with a bracket.
func calls(b api.BracketBook, q question) []result {
	is, f1 := bracket.Fits(b)
	clash, f2 := bracket.Clash(b)
	trust, f3 := bracket.Trust(b)
	one, two, f4 := bracket.Sides(b, q.match)
	wins, f5 := bracket.Winners(b, q.match)
	reach, f6 := bracket.Reaches(b, q.seed, q.round)
	won, f7 := bracket.Medals(b)
	open, f8 := bracket.Open(b)
	because, gold, f9 := bracket.Because(b)
	more, f10 := bracket.Tell(b, q.told)
	text, f11 := bracket.Print(b)
	return []result{
		{bracket.CheckBook(b), nil}, {f1, []any{is}}, {f2, []any{clash}}, {f3, []any{trust}}, {f4, []any{one, two}}, {f5, []any{wins}},
		{f6, []any{reach}}, {f7, []any{won}}, {f8, []any{open}}, {f9, []any{because, gold}}, {f10, []any{more.Sets, more.Seeds, more.Results}},
		{f11, []any{text}},
	}
}

// needFit are the calls that need results that fit, by their places among the results of calls.
var needFit = list(4, 5, 6, 7, 8, 9, 10)

// checkResults looks for results beside fouls, and for fouls that come before that of the bracket.
func checkResults(t *testing.T, b api.BracketBook, q question, results []result) {
	t.Helper()
	for i, x := range results {
		if x.f != api.Fair && !zero(x.rest...) {
			t.Fatal("results beside a foul", b, q, i, x)
		}
		if results[0].f != api.Fair && x.f != results[0].f {
			t.Fatal("another foul before that of the bracket", b, q, i, x, results[0].f)
		}
		if results[0].f == api.Fair && x.f != api.Fair && !slices.Contains(needFit, i) {
			t.Fatal("a foul of a bracket that has none", b, q, i, x)
		}
		if results[0].f == api.Fair && results[1].rest[0] == false && slices.Contains(needFit, i) && x.f == api.Fair {
			t.Fatal("no foul though the results do not fit", b, q, i, x)
		}
	}
}

// P1, R4: any arguments are answered, in the same way each time, and are not changed.
func TestAnyArguments(t *testing.T) {
	r := rand.New(rand.NewSource(71))
	fouls := make(map[api.Foul]int)
	for range 3000 {
		b := anyBook(r)
		q := question{r.Intn(8), r.Intn(8), r.Intn(3), anyResult(r)}
		if len(b.Results) > 0 && r.Intn(2) == 0 {
			q.told = copyResult(b.Results[0])
		}
		if r.Intn(3) == 0 {
			q.match, q.seed, q.round = anyNumber(r), anyNumber(r), anyNumber(r)
		}
		old, oldTold := copyBook(b), copyResult(q.told)
		results := calls(b, q)
		checkResults(t, b, q, results)
		if !sameBook(b, old) || !sameResult(q.told, oldTold) {
			t.Fatal("an argument was changed", b, old, q)
		}
		if !reflect.DeepEqual(results, calls(b, q)) {
			t.Fatal("another answer to the same question", b, q)
		}
		fouls[results[0].f]++
	}
	for _, f := range []api.Foul{api.Fair, api.OffLimits, api.BadCount, api.BadName, api.Twice, api.Unknown, api.NotEnough, api.Against} {
		if fouls[f] == 0 {
			t.Error("no bracket had the foul", f)
		}
	}
}

// P1: any numbers and any pairs are answered.
func TestAnyNumbers(t *testing.T) {
	r := rand.New(rand.NewSource(72))
	for range 5000 {
		seeds, one, two := anyNumber(r), anyNumber(r), anyNumber(r)
		if m, f := bracket.Meet(seeds, one, two); f != api.Fair && m != 0 {
			t.Fatal(seeds, one, two, m, f)
		}
		if l, f := bracket.Slots(seeds); f != api.Fair && len(l) > 0 {
			t.Fatal(seeds, l, f)
		}
		most, sets, offs := anyNumber(r), anyPairs(r), anyPairs(r)
		oldSets, oldOffs := slices.Clone(sets), slices.Clone(offs)
		if s := scoreOf(most, sets, offs); s.f != api.Fair && s != foul(s.f) {
			t.Fatal(most, sets, offs, s)
		}
		if !slices.Equal(sets, oldSets) || !slices.Equal(offs, oldOffs) {
			t.Fatal("an argument was changed", sets, offs)
		}
	}
}

// P1: brackets as great as they may be are answered, and greater ones have a foul.
func TestGreat(t *testing.T) {
	q := question{7, 7, 2, great().Results[0]}
	for i, x := range calls(great(), q) {
		if want := map[int]api.Foul{10: api.BadCount}[i]; x.f != want {
			t.Error(i, x.f)
		}
	}
	for _, b := range []api.BracketBook{
		{Sets: 5, Seeds: make([]string, 1<<20)},
		{Sets: 5, Seeds: great().Seeds, Results: make([]api.BracketResult, 1<<20)},
	} {
		for i, x := range calls(b, q) {
			if x.f != api.BadCount {
				t.Error(i, x.f)
			}
		}
	}
}

// P1: any text is answered.
func TestAnyText(t *testing.T) {
	r := rand.New(rand.NewSource(73))
	parts := []string{sets, seeds, head, match, "match 0 0 1 ", "bracket ", "seed ", "match ", " ", " ", "\n", "\n", "1", "2", "/", "9/9", "/3", "0", "-", "-1", "..", "\xff", "\x00", "999999999"}
	for range 5000 {
		text := ""
		if r.Intn(2) == 0 {
			text = head
		}
		for range r.Intn(20) {
			text += pick(r, parts)
		}
		b, line, f := bracket.Parse(text)
		if f != api.Fair && !sameBook(b, api.BracketBook{}) || f != api.BadForm && line != 0 || f == api.BadForm && line == 0 && text != "" {
			t.Fatalf("%q: %v %d %d", text, b, line, f)
		}
	}
}

// R3: nil and an empty slice are the same.
func TestNilAndEmpty(t *testing.T) {
	a, b := plain(4, told{0, 0, 3, 0}), plain(4, told{0, 0, 3, 0})
	a.Results[0].Offs, b.Results[0].Offs = nil, []api.BracketPair{}
	q := question{1, 1, 1, b.Results[0]}
	x, y := calls(a, q), calls(b, q)
	for i := range x {
		if x[i].f != api.Fair || y[i].f != api.Fair {
			t.Error(i, x[i], y[i])
		}
	}
	a.Results, b.Results = nil, []api.BracketResult{}
	if x, y := calls(a, q), calls(b, q); !sameResults(x, y) {
		t.Error(x, y)
	}
	a.Seeds, b.Seeds = nil, []string{}
	if x, y := calls(a, q), calls(b, q); !sameResults(x, y) {
		t.Error(x, y)
	}
	for _, none := range [][]api.BracketPair{nil, {}} {
		if s := scoreOf(3, none, none); s != (score{0, 0, -1, api.Fair}) {
			t.Error(s)
		}
		if s := scoreOf(1, pairs(1, 0), none); s != (score{2, 0, 0, api.Fair}) {
			t.Error(s)
		}
	}
}

// sameResults says whether results are the same, though a list of one may be nil and that of the other one empty.
func sameResults(a, b []result) bool {
	return slices.EqualFunc(a, b, func(x, y result) bool {
		return x.f == y.f && slices.EqualFunc(x.rest, y.rest, sameValue)
	})
}

func sameValue(x, y any) bool {
	a, ok := x.([]api.BracketResult)
	b, also := y.([]api.BracketResult)
	if ok && also {
		return slices.EqualFunc(a, b, sameResult)
	}
	return zero(x) && zero(y) || reflect.DeepEqual(x, y)
}

// R4: two answers share no memory, nor do two lists of one.
func TestResultsShareNothing(t *testing.T) {
	b := plain(4)
	for range 2 {
		one, two := sidesOf(t, b, 2)
		if !slices.Equal(one, list(0, 3)) || !slices.Equal(two, list(1, 2)) {
			t.Error(one, two)
		}
		one = append(one, 99)
		one[0], two[0] = -1, -2
		if !slices.Equal(two, list(-2, 2)) || !slices.Equal(one, list(-1, 3, 99)) {
			t.Error(one, two)
		}
		open := openOf(t, b)
		if !slices.Equal(open, list(0, 1)) {
			t.Error(open)
		}
		open[0] = 7
	}
}
