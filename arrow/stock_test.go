package arrow_test

import (
	"math"
	"math/rand"
	"slices"
	"testing"

	"nock/api"
	"nock/arrow"
)

// P1.1: every foul of a stock, at its limits.
func TestCheckStock(t *testing.T) {
	shaft := func(i int, change func(x *api.ArrowShaft)) func(s *api.ArrowStock) {
		return func(s *api.ArrowStock) { change(&s.Shafts[i]) }
	}
	name := func(text string) func(s *api.ArrowStock) {
		return shaft(2, func(x *api.ArrowShaft) { x.Name = text })
	}
	for what, x := range map[string]struct {
		change func(s *api.ArrowStock)
		want   api.Foul
	}{
		"as it is":            {func(s *api.ArrowStock) {}, api.Fair},
		"no shafts":           {func(s *api.ArrowStock) { s.Shafts = nil }, api.Fair},
		"empty shafts":        {func(s *api.ArrowStock) { s.Shafts = []api.ArrowShaft{} }, api.Fair},
		"rule of zeros":       {func(s *api.ArrowStock) { s.Rule = api.ArrowRule{Many: 2} }, api.Fair},
		"greatest rule":       {func(s *api.ArrowStock) { s.Rule = api.ArrowRule{Spine: 9999, Length: 9999, Weight: 9999, Many: 4} }, api.Fair},
		"spine below":         {func(s *api.ArrowStock) { s.Rule.Spine = -1 }, api.OffLimits},
		"spine above":         {func(s *api.ArrowStock) { s.Rule.Spine = 10000 }, api.OffLimits},
		"length below":        {func(s *api.ArrowStock) { s.Rule.Length = -1 }, api.OffLimits},
		"length above":        {func(s *api.ArrowStock) { s.Rule.Length = 10000 }, api.OffLimits},
		"weight below":        {func(s *api.ArrowStock) { s.Rule.Weight = -1 }, api.OffLimits},
		"weight above":        {func(s *api.ArrowStock) { s.Rule.Weight = 10000 }, api.OffLimits},
		"sets of none":        {func(s *api.ArrowStock) { s.Rule.Many = 0 }, api.OffLimits},
		"sets of one":         {func(s *api.ArrowStock) { s.Rule.Many = 1 }, api.OffLimits},
		"sets of two":         {func(s *api.ArrowStock) { s.Rule.Many = 2 }, api.Fair},
		"sets of four":        {func(s *api.ArrowStock) { s.Rule.Many = 4 }, api.Fair},
		"sets of five":        {func(s *api.ArrowStock) { s.Rule.Many = 5 }, api.OffLimits},
		"nine shafts":         {func(s *api.ArrowStock) { s.Shafts = manyShafts(9) }, api.Fair},
		"ten shafts":          {func(s *api.ArrowStock) { s.Shafts = manyShafts(10) }, api.BadCount},
		"no name":             {name(""), api.BadName},
		"great letter":        {name("A"), api.BadName},
		"great letter later":  {name("xA"), api.BadName},
		"digit first":         {name("9a"), api.BadName},
		"digits later":        {name("z09"), api.Fair},
		"twelve bytes":        {name("abcdefghijkl"), api.Fair},
		"thirteen bytes":      {name("abcdefghijklm"), api.BadName},
		"blank in a name":     {name("a b"), api.BadName},
		"sign below letters":  {name("a`"), api.BadName},
		"sign above letters":  {name("a{"), api.BadName},
		"sign below digits":   {name("a/"), api.BadName},
		"sign above digits":   {name("a:"), api.BadName},
		"letter of two bytes": {name("ä"), api.BadName},
		"the name of another": {name("a"), api.Twice},
		"the name before":     {name("b"), api.Twice},
		"spine upside down":   {shaft(2, func(x *api.ArrowShaft) { x.Spine = to(3, 2) }), api.OffLimits},
		"spine of a shaft":    {shaft(2, func(x *api.ArrowShaft) { x.Spine = to(-1, 2) }), api.OffLimits},
		"length of a shaft":   {shaft(2, func(x *api.ArrowShaft) { x.Length = to(0, 10000) }), api.OffLimits},
		"length upside down":  {shaft(2, func(x *api.ArrowShaft) { x.Length = to(1, 0) }), api.OffLimits},
		"weight of a shaft":   {shaft(6, func(x *api.ArrowShaft) { x.Weight = to(-1, 0) }), api.OffLimits},
		"weight upside down":  {shaft(6, func(x *api.ArrowShaft) { x.Weight = to(1, 0) }), api.OffLimits},
		"widest spans":        {shaft(0, func(x *api.ArrowShaft) { x.Spine, x.Length, x.Weight = to(0, 9999), to(0, 9999), to(0, 9999) }), api.Fair},
	} {
		s := exampleStock()
		x.change(&s)
		if f := arrow.CheckStock(s); f != x.want {
			t.Error(what, f)
		}
	}
}

func manyShafts(n int) []api.ArrowShaft {
	var l []api.ArrowShaft
	for i := range n {
		l = append(l, api.ArrowShaft{Name: string(rune('a' + i))})
	}
	return l
}

// P1.1, R1: of several fouls the first one counts.
func TestCheckStockOrder(t *testing.T) {
	s := exampleStock()
	s.Shafts[5].Weight = to(1, 0)
	s.Shafts[4].Name, s.Shafts[4].Spine = "a", to(1, 0)
	s.Shafts[3].Name, s.Shafts[3].Spine = "", to(1, 0)
	s.Shafts = append(s.Shafts, make([]api.ArrowShaft, 3)...)
	s.Rule.Weight = -1
	for _, x := range []struct {
		want   api.Foul
		repair func()
	}{
		{api.OffLimits, func() { s.Rule.Weight = 0 }},
		{api.BadCount, func() { s.Shafts = s.Shafts[:7] }},
		{api.BadName, func() { s.Shafts[3].Name = "d" }},
		{api.OffLimits, func() { s.Shafts[3].Spine = one(1) }},
		{api.Twice, func() { s.Shafts[4].Name = "e" }},
		{api.OffLimits, func() { s.Shafts[4].Spine = one(1) }},
		{api.OffLimits, func() { s.Shafts[5].Weight = one(1) }},
		{api.Fair, func() {}},
	} {
		if f := arrow.CheckStock(s); f != x.want {
			t.Error(f, x.want)
		}
		x.repair()
	}
	s.Shafts[1].Name = ""
	s.Shafts[2].Name = ""
	if f := arrow.CheckStock(s); f != api.BadName {
		t.Error("two empty names", f)
	}
}

// P1.1: Match of the examples, at the edges, and of lists with a foul.
func TestMatch(t *testing.T) {
	for _, x := range []struct {
		list []int
		want api.Sure
		f    api.Foul
	}{
		{[]int{0, 1, 2}, api.Yes, api.Fair},
		{[]int{0, 3}, api.Maybe, api.Fair},
		{[]int{0, 6}, api.No, api.Fair},
		{nil, api.Yes, api.Fair},
		{[]int{}, api.Yes, api.Fair},
		{[]int{6}, api.Yes, api.Fair},
		{[]int{0, 2, 3}, api.Maybe, api.Fair},
		{[]int{0, 3, 6}, api.No, api.Fair},
		{[]int{0, 1, 2, 4, 5}, api.Yes, api.Fair},
		{[]int{0, 1, 2, 3, 4, 5, 6}, api.No, api.Fair},
		{[]int{7}, api.Maybe, api.Unknown},
		{[]int{-1}, api.Maybe, api.Unknown},
		{[]int{math.MinInt}, api.Maybe, api.Unknown},
		{[]int{math.MaxInt}, api.Maybe, api.Unknown},
		{[]int{1, 0}, api.Maybe, api.OutOfOrder},
		{[]int{0, 0}, api.Maybe, api.OutOfOrder},
		{[]int{1, 0, 7}, api.Maybe, api.OutOfOrder},
		{[]int{1, 7, 0}, api.Maybe, api.Unknown},
		{[]int{1, -1}, api.Maybe, api.Unknown},
	} {
		sure, f := arrow.Match(exampleStock(), x.list)
		if sure != x.want || f != x.f {
			t.Error("Match", x.list, sure, f)
		}
		if _, f := arrow.Apart(exampleStock(), x.list); f != x.f {
			t.Error("Apart", x.list, f)
		}
	}
	bad := exampleStock()
	bad.Shafts[0].Name = ""
	if sure, f := arrow.Match(bad, []int{9}); sure != api.Maybe || f != api.BadName {
		t.Error(sure, f)
	}
	if l, f := arrow.Apart(bad, []int{9}); len(l) > 0 || f != api.BadName {
		t.Error(l, f)
	}
}

// P1.1: a difference that is just what the rule says matches, one more does not; each of the three counts.
func TestMatchEdges(t *testing.T) {
	for what := range 3 {
		for _, x := range []struct {
			a, b api.Span
			want api.Sure
		}{
			{one(5), one(8), api.Yes},
			{one(5), one(9), api.No},
			{one(8), one(5), api.Yes},
			{one(9), one(5), api.No},
			{to(5, 6), to(8, 9), api.Maybe},
			{to(5, 6), to(9, 20), api.Maybe},
			{to(5, 6), to(10, 20), api.No},
			{to(10, 20), to(5, 6), api.No},
			{to(9, 20), to(5, 6), api.Maybe},
			{to(5, 8), to(5, 8), api.Yes},
			{to(5, 9), to(5, 9), api.Maybe},
			{to(0, 9999), one(5000), api.Maybe},
		} {
			s := api.ArrowStock{Rule: api.ArrowRule{Spine: 3, Length: 3, Weight: 3, Many: 2}, Shafts: manyShafts(2)}
			for i, span := range []api.Span{x.a, x.b} {
				*part(&s.Shafts[i], what) = span
			}
			if sure := match(t, s, 0, 1); sure != x.want {
				t.Error(what, x, sure)
			}
			var want []api.ArrowApart
			if x.want != api.Yes {
				want = append(want, api.ArrowApart{One: 0, Two: 1, What: api.ArrowWhat(what), Match: x.want})
			}
			if l, f := arrow.Apart(s, []int{0, 1}); !slices.Equal(l, want) || f != api.Fair {
				t.Error(what, x, l, f)
			}
		}
	}
}

func part(x *api.ArrowShaft, what int) *api.Span {
	return []*api.Span{&x.Spine, &x.Length, &x.Weight}[what]
}

// P1.1: a shaft alone matches, however wide its spans are.
func TestMatchAlone(t *testing.T) {
	s := api.ArrowStock{Rule: api.ArrowRule{Many: 2}, Shafts: manyShafts(1)}
	s.Shafts[0].Spine = to(0, 9999)
	if sure := match(t, s, 0); sure != api.Yes {
		t.Error(sure)
	}
}

// P1.1: Apart tells each two shafts and each measure, in order.
func TestApart(t *testing.T) {
	want := []api.ArrowApart{
		{One: 0, Two: 3, What: api.ArrowSpine, Match: api.Maybe},
		{One: 2, Two: 3, What: api.ArrowSpine, Match: api.Maybe},
		{One: 2, Two: 3, What: api.ArrowWeight, Match: api.Maybe},
	}
	if l, f := arrow.Apart(exampleStock(), []int{0, 2, 3}); !slices.Equal(l, want) || f != api.Fair {
		t.Error(l, f)
	}
	for _, list := range [][]int{nil, {3}, {0, 1}, {0, 1, 2, 4, 5}} {
		if l, f := arrow.Apart(exampleStock(), list); len(l) > 0 || f != api.Fair {
			t.Error(list, l, f)
		}
	}
	s := api.ArrowStock{Rule: api.ArrowRule{Spine: 1, Length: 1, Weight: 1, Many: 2}, Shafts: manyShafts(3)}
	s.Shafts[2].Spine, s.Shafts[2].Length, s.Shafts[2].Weight = to(1, 2), to(2, 3), to(5, 6)
	var all []api.ArrowApart
	for shaft := range 2 {
		all = append(all,
			api.ArrowApart{One: shaft, Two: 2, What: api.ArrowSpine, Match: api.Maybe},
			api.ArrowApart{One: shaft, Two: 2, What: api.ArrowLength, Match: api.No},
			api.ArrowApart{One: shaft, Two: 2, What: api.ArrowWeight, Match: api.No},
		)
	}
	if l, f := arrow.Apart(s, []int{0, 1, 2}); !slices.Equal(l, all) || f != api.Fair {
		t.Error(l, f)
	}
}

// matchIn says whether shafts match that have just these numbers.
func matchIn(rule api.ArrowRule, truth [][3]int) bool {
	for what, allowed := range [3]int{rule.Spine, rule.Length, rule.Weight} {
		for _, a := range truth {
			for _, b := range truth {
				if a[what]-b[what] > allowed {
					return false
				}
			}
		}
	}
	return true
}

// tryTruths gives each truth of a list of shafts to see.
func tryTruths(s api.ArrowStock, list []int, truth [][3]int, see func(truth [][3]int)) {
	if len(truth) == len(list) {
		see(truth)
		return
	}
	x := s.Shafts[list[len(truth)]]
	for a := x.Spine.Min; a <= x.Spine.Max; a++ {
		for b := x.Length.Min; b <= x.Length.Max; b++ {
			for c := x.Weight.Min; c <= x.Weight.Max; c++ {
				tryTruths(s, list, append(truth, [3]int{a, b, c}), see)
			}
		}
	}
}

// truthsSay returns what all truths say of a list of shafts.
func truthsSay(s api.ArrowStock, list []int) api.Sure {
	yes, no := false, false
	tryTruths(s, list, nil, func(truth [][3]int) {
		if matchIn(s.Rule, truth) {
			yes = true
		} else {
			no = true
		}
	})
	switch {
	case !no:
		return api.Yes
	case !yes:
		return api.No
	}
	return api.Maybe
}

// P1.6, P2: Match says what the truths say; pairs decide it.
func TestMatchOfTruths(t *testing.T) {
	r := rand.New(rand.NewSource(1))
	seen := map[api.Sure]int{}
	for range 300 {
		s := randomStock(r, 4)
		for _, list := range subsets(4) {
			sure := match(t, s, list...)
			if want := truthsSay(s, list); sure != want {
				t.Fatal(s, list, sure, want)
			}
			seen[sure]++
			allYes, someNo := true, false
			for i, a := range list {
				for _, b := range list[i+1:] {
					pair := match(t, s, a, b)
					allYes = allYes && pair == api.Yes
					someNo = someNo || pair == api.No
				}
			}
			if allYes != (sure == api.Yes) || someNo != (sure == api.No) {
				t.Fatal(s, list, sure, allYes, someNo)
			}
		}
	}
	if len(seen) != 3 {
		t.Error("stocks are not mixed enough", seen)
	}
}

// P1.1: Apart says of each measure what Match would say if the other two did not count.
func TestApartOfTruths(t *testing.T) {
	r := rand.New(rand.NewSource(2))
	for range 200 {
		s := randomStock(r, 4)
		var want []api.ArrowApart
		for i := range 4 {
			for j := i + 1; j < 4; j++ {
				for what := range 3 {
					if sure := match(t, onlyBy(s, what), i, j); sure != api.Yes {
						want = append(want, api.ArrowApart{One: i, Two: j, What: api.ArrowWhat(what), Match: sure})
					}
				}
			}
		}
		if l, f := arrow.Apart(s, []int{0, 1, 2, 3}); !slices.Equal(l, want) || f != api.Fair {
			t.Fatal(s, l, want, f)
		}
	}
}

// onlyBy returns the stock in which just one measure tells shafts apart.
func onlyBy(s api.ArrowStock, what int) api.ArrowStock {
	for i, allowed := range []*int{&s.Rule.Spine, &s.Rule.Length, &s.Rule.Weight} {
		if i != what {
			*allowed = api.MaxArrowNumber
		}
	}
	return s
}

// P1.2: Measure narrows one span, leaves the rest, and finds its fouls in order.
func TestMeasure(t *testing.T) {
	for _, x := range []struct {
		shaft int
		what  api.ArrowWhat
		span  api.Span
		want  api.Span
		f     api.Foul
	}{
		{3, api.ArrowSpine, to(400, 410), to(409, 410), api.Fair},
		{3, api.ArrowSpine, to(410, 411), to(410, 411), api.Fair},
		{3, api.ArrowSpine, to(411, 9999), to(411, 412), api.Fair},
		{3, api.ArrowSpine, to(0, 409), one(409), api.Fair},
		{3, api.ArrowSpine, to(412, 500), one(412), api.Fair},
		{3, api.ArrowSpine, to(0, 408), one(0), api.Against},
		{3, api.ArrowSpine, to(413, 500), one(0), api.Against},
		{0, api.ArrowLength, to(0, 9999), one(700), api.Fair},
		{2, api.ArrowLength, one(701), one(701), api.Fair},
		{4, api.ArrowWeight, to(254, 260), one(254), api.Fair},
		{0, api.ArrowWeight, to(253, 260), one(0), api.Against},
		{6, api.ArrowWeight, one(250), one(250), api.Fair},
		{7, 3, to(5, 4), one(0), api.Unknown},
		{-1, api.ArrowSpine, to(4, 5), one(0), api.Unknown},
		{0, 3, to(5, 6), one(0), api.OffLimits},
		{0, -1, to(5, 6), one(0), api.OffLimits},
		{0, math.MaxInt, to(5, 6), one(0), api.OffLimits},
		{0, api.ArrowSpine, to(402, 401), one(0), api.OffLimits},
		{0, api.ArrowSpine, to(400, 10000), one(0), api.OffLimits},
		{0, api.ArrowSpine, to(-1, 400), one(0), api.OffLimits},
		{0, api.ArrowSpine, to(math.MinInt, math.MaxInt), one(0), api.OffLimits},
	} {
		s := exampleStock()
		want := api.ArrowStock{}
		if x.f == api.Fair {
			want = exampleStock()
			*part(&want.Shafts[x.shaft], int(x.what)) = x.want
		}
		o, f := arrow.Measure(s, x.shaft, x.what, x.span)
		if f != x.f || !sameStock(o, want) {
			t.Error(x, o, f)
		}
		if !sameStock(s, exampleStock()) {
			t.Error("the argument was changed", x, s)
		}
		for i := range o.Shafts {
			o.Shafts[i].Name = "changed"
		}
		if !sameStock(s, exampleStock()) {
			t.Error("memory is shared", x, s)
		}
	}
	bad := exampleStock()
	bad.Rule.Many = 0
	if o, f := arrow.Measure(bad, 9, 9, to(1, 0)); !sameStock(o, api.ArrowStock{}) || f != api.OffLimits {
		t.Error(o, f)
	}
	o, _ := arrow.Measure(exampleStock(), 3, api.ArrowSpine, to(400, 410))
	if sure := match(t, o, 0, 3); sure != api.Yes {
		t.Error("a and d", sure)
	}
}

// randomMeasurement returns a stock after one more measurement that does not contradict it.
func randomMeasurement(t *testing.T, r *rand.Rand, s api.ArrowStock) api.ArrowStock {
	t.Helper()
	for {
		o, f := arrow.Measure(s, r.Intn(len(s.Shafts)), api.ArrowWhat(r.Intn(3)), randomSpan(r, 4, 2))
		if f == api.Fair {
			return o
		}
		if f != api.Against || len(o.Shafts) > 0 {
			t.Fatal(o, f)
		}
	}
}

// P1.8, P3: what was certain of a match stays so after a measurement.
func TestMeasureKeepsCertain(t *testing.T) {
	r := rand.New(rand.NewSource(3))
	changed := 0
	for range 300 {
		s := randomStock(r, 5)
		o := randomMeasurement(t, r, s)
		for _, list := range subsets(5) {
			before, after := match(t, s, list...), match(t, o, list...)
			if before != api.Maybe && after != before {
				t.Fatal(s, o, list, before, after)
			}
			if after != before {
				changed++
			}
		}
	}
	if changed == 0 {
		t.Error("no measurement has decided anything")
	}
}
