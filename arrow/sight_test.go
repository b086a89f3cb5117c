package arrow_test

import (
	"math"
	"math/rand"
	"slices"
	"testing"

	"nock/api"
	"nock/arrow"
)

// P1.3: every foul of a card, at its limits.
func TestCheckCard(t *testing.T) {
	shot := func(change func(x *api.SightShot)) func(c *api.SightCard) {
		return func(c *api.SightCard) { change(&c.Shots[1]) }
	}
	for what, x := range map[string]struct {
		change func(c *api.SightCard)
		want   api.Foul
	}{
		"as it is":         {func(c *api.SightCard) {}, api.Fair},
		"all zero":         {func(c *api.SightCard) { *c = api.SightCard{} }, api.Fair},
		"no shots":         {func(c *api.SightCard) { c.Shots = nil }, api.Fair},
		"greatest rule":    {func(c *api.SightCard) { c.Rule = api.SightRule{Least: 999, Most: 999, Wind: 999, Light: 999} }, api.Fair},
		"least below":      {func(c *api.SightCard) { c.Rule.Least = -1 }, api.OffLimits},
		"least above":      {func(c *api.SightCard) { c.Rule.Least, c.Rule.Most = 1000, 1000 }, api.OffLimits},
		"most above":       {func(c *api.SightCard) { c.Rule.Most = 1000 }, api.OffLimits},
		"least above most": {func(c *api.SightCard) { c.Rule.Least = 5 }, api.OffLimits},
		"least is most":    {func(c *api.SightCard) { c.Rule.Least = 4 }, api.Fair},
		"both below":       {func(c *api.SightCard) { c.Rule.Least, c.Rule.Most = -2, -1 }, api.OffLimits},
		"wind below":       {func(c *api.SightCard) { c.Rule.Wind = -1 }, api.OffLimits},
		"wind above":       {func(c *api.SightCard) { c.Rule.Wind = 1000 }, api.OffLimits},
		"light below":      {func(c *api.SightCard) { c.Rule.Light = -1 }, api.OffLimits},
		"light above":      {func(c *api.SightCard) { c.Rule.Light = 1000 }, api.OffLimits},
		"eight shots":      {func(c *api.SightCard) { c.Shots = make([]api.SightShot, 8) }, api.Fair},
		"nine shots":       {func(c *api.SightCard) { c.Shots = make([]api.SightShot, 9) }, api.BadCount},
		"at 0":             {shot(func(x *api.SightShot) { x.At = 0 }), api.Fair},
		"at 90":            {shot(func(x *api.SightShot) { x.At = 90 }), api.Fair},
		"at below":         {shot(func(x *api.SightShot) { x.At = -1 }), api.OffLimits},
		"at above":         {shot(func(x *api.SightShot) { x.At = 91 }), api.OffLimits},
		"mark upside down": {shot(func(x *api.SightShot) { x.Mark = to(3, 2) }), api.OffLimits},
		"mark below":       {shot(func(x *api.SightShot) { x.Mark = to(-1, 2) }), api.OffLimits},
		"mark above":       {shot(func(x *api.SightShot) { x.Mark = to(0, 100000) }), api.OffLimits},
		"widest mark":      {shot(func(x *api.SightShot) { x.Mark = to(0, 99999) }), api.Fair},
		"winds":            {shot(func(x *api.SightShot) { x.Wind = 9 }), api.Fair},
		"no such wind":     {shot(func(x *api.SightShot) { x.Wind = 10 }), api.OffLimits},
		"wind below 0":     {shot(func(x *api.SightShot) { x.Wind = -1 }), api.OffLimits},
		"lights":           {shot(func(x *api.SightShot) { x.Light = 9 }), api.Fair},
		"no such light":    {shot(func(x *api.SightShot) { x.Light = 10 }), api.OffLimits},
		"light below 0":    {shot(func(x *api.SightShot) { x.Light = -1 }), api.OffLimits},
	} {
		c := exampleCard()
		x.change(&c)
		if f := arrow.CheckCard(c); f != x.want {
			t.Error(what, f)
		}
	}
	c := exampleCard()
	c.Shots = make([]api.SightShot, 9)
	c.Shots[0].At = -1
	if f := arrow.CheckCard(c); f != api.BadCount {
		t.Error("the number of shots comes before the shots", f)
	}
	c.Rule.Wind = -1
	if f := arrow.CheckCard(c); f != api.OffLimits {
		t.Error("the rule comes before the number of shots", f)
	}
}

// P1.3: wind and light widen a span on both sides.
func TestWide(t *testing.T) {
	for _, x := range []struct {
		shot int
		want api.Span
		f    api.Foul
	}{
		{0, to(30, 32), api.Fair},
		{1, to(55, 60), api.Fair},
		{2, to(93, 102), api.Fair},
		{3, one(0), api.Unknown},
		{-1, one(0), api.Unknown},
		{math.MaxInt, one(0), api.Unknown},
	} {
		if w, f := arrow.Wide(exampleCard(), x.shot); w != x.want || f != x.f {
			t.Error(x, w, f)
		}
	}
	c := api.SightCard{
		Rule:  api.SightRule{Most: 1, Wind: 7, Light: 100},
		Shots: []api.SightShot{{Mark: to(20, 30), Wind: 3}, {Mark: one(20), Light: 2}, {Mark: one(0), Wind: 9, Light: 9}},
	}
	for shot, want := range []api.Span{to(-1, 51), to(-180, 220), to(-963, 963)} {
		if w, f := arrow.Wide(c, shot); w != want || f != api.Fair {
			t.Error(shot, w, f)
		}
	}
	c.Shots[0].Wind = 10
	if w, f := arrow.Wide(c, 9); w != one(0) || f != api.OffLimits {
		t.Error(w, f)
	}
}

// P1.3: which shots fit, which do not, and the most that do.
func TestShots(t *testing.T) {
	third := func(mark api.Span) api.SightCard { return withShots(exampleCard(), api.SightShot{At: 20, Mark: mark}) }
	early := exampleCard()
	early.Shots[0].Mark = one(60)
	none := exampleCard()
	none.Shots = nil
	lone := exampleCard()
	lone.Shots = lone.Shots[:1]
	same := exampleCard()
	same.Shots = []api.SightShot{{At: 5, Mark: to(10, 11)}, {At: 5, Mark: to(12, 13)}}
	touch := exampleCard()
	touch.Shots = []api.SightShot{{At: 5, Mark: to(10, 12)}, {At: 5, Mark: to(12, 13)}}
	widened := exampleCard()
	widened.Shots = []api.SightShot{{At: 5, Mark: to(10, 11), Wind: 1}, {At: 5, Mark: to(12, 13)}}
	all := exampleCard()
	all.Shots = []api.SightShot{{At: 9, Mark: one(50)}, {At: 9, Mark: one(40)}, {At: 9, Mark: one(30)}, {At: 9, Mark: one(40)}}
	for what, x := range map[string]struct {
		card         api.SightCard
		clash, trust []int
	}{
		"as it is":           {exampleCard(), nil, []int{0, 1, 2}},
		"third one too high": {third(one(70)), []int{1, 3}, []int{0, 1, 2}},
		"third one at 73":    {third(to(73, 80)), []int{0, 3}, []int{0, 1, 2}},
		"far one":            {withShots(exampleCard(), api.SightShot{At: 90, Mark: one(300)}), nil, []int{0, 1, 2, 3}},
		"early one too high": {early, []int{0, 1}, []int{0, 2}},
		"no shots":           {none, nil, nil},
		"one shot":           {lone, nil, []int{0}},
		"same distance":      {same, []int{0, 1}, []int{0}},
		"just one mark":      {touch, nil, []int{0, 1}},
		"in wind":            {widened, nil, []int{0, 1}},
		"most of the same":   {all, []int{0, 1}, []int{1, 3}},
	} {
		if is, f := arrow.Fits(x.card); is != (x.clash == nil) || f != api.Fair {
			t.Error(what, is, f)
		}
		if l, f := arrow.Clash(x.card); !slices.Equal(l, x.clash) || f != api.Fair {
			t.Error(what, l, f)
		}
		if l, f := arrow.Trust(x.card); !slices.Equal(l, x.trust) || f != api.Fair {
			t.Error(what, l, f)
		}
	}
}

// P1.3: fouls of the card come first, and nothing is returned beside them.
func TestShotsFouls(t *testing.T) {
	c := exampleCard()
	c.Shots[0].Light = -1
	if is, f := arrow.Fits(c); is || f != api.OffLimits {
		t.Error(is, f)
	}
	c.Shots = make([]api.SightShot, 9)
	if l, f := arrow.Clash(c); len(l) > 0 || f != api.BadCount {
		t.Error(l, f)
	}
	if l, f := arrow.Trust(c); len(l) > 0 || f != api.BadCount {
		t.Error(l, f)
	}
}

// P1.3: the growth may be just the least or the most, over the whole way and on both sides.
func TestFitEdges(t *testing.T) {
	rule := api.SightRule{Least: 2, Most: 5}
	for mark, want := range map[int]bool{119: false, 120: true, 135: true, 150: true, 151: false} {
		for _, shots := range [][]api.SightShot{
			{{At: 40, Mark: one(100)}, {At: 50, Mark: one(mark)}},
			{{At: 50, Mark: one(mark)}, {At: 40, Mark: one(100)}},
		} {
			c := api.SightCard{Rule: rule, Shots: shots}
			if is := fits(t, c); is != want {
				t.Error(mark, is)
			}
		}
	}
}

// window is a span of marks in which all truths lie of the cards that randomCard returns.
const window = 800

// possible are the marks, from -window to window, that truths give a distance.
type possible [api.MaxSightFar + 1][2*window + 1]bool

// tell returns the marks that truths give each distance. It goes from distance to distance with every single mark.
func tell(c api.SightCard) (marks *possible, is bool) {
	up, down := new(possible), new(possible)
	for at := range up {
		for m := range up[at] {
			free := true
			for _, shot := range c.Shots {
				more := shot.Wind*c.Rule.Wind + shot.Light*c.Rule.Light
				free = free && (shot.At != at || shot.Mark.Min-more <= m-window && m-window <= shot.Mark.Max+more)
			}
			up[at][m], down[at][m] = free, free
		}
	}
	for at := 1; at <= api.MaxSightFar; at++ {
		back := api.MaxSightFar - at
		for m := range up[at] {
			fromBelow, fromAbove := false, false
			for grow := c.Rule.Least; grow <= c.Rule.Most; grow++ {
				fromBelow = fromBelow || m >= grow && up[at-1][m-grow]
				fromAbove = fromAbove || m+grow <= 2*window && down[back+1][m+grow]
			}
			up[at][m] = up[at][m] && fromBelow
			down[back][m] = down[back][m] && fromAbove
		}
	}
	for at := range up {
		for m := range up[at] {
			up[at][m] = up[at][m] && down[at][m]
			is = is || up[at][m]
		}
	}
	return up, is
}

// only returns the card with the shots of a list.
func only(c api.SightCard, list []int) api.SightCard {
	var shots []api.SightShot
	for _, shot := range list {
		shots = append(shots, c.Shots[shot])
	}
	c.Shots = shots
	return c
}

// P1.3, P1.10, P2, P4: Fits, Clash and Trust say what the truths say.
func TestShotsOfTruths(t *testing.T) {
	r := rand.New(rand.NewSource(8))
	seen := map[bool]int{}
	for range 30 {
		c := randomCard(r, 4)
		var clashes, trusts [][]int
		few, most := 5, 0
		for _, list := range subsets(4) {
			_, is := tell(only(c, list))
			if fits(t, only(c, list)) != is {
				t.Fatal(c, list, is)
			}
			switch {
			case is && len(list) > most:
				most, trusts = len(list), [][]int{list}
			case is && len(list) == most:
				trusts = append(trusts, list)
			case !is && len(list) < few:
				few, clashes = len(list), [][]int{list}
			case !is && len(list) == few:
				clashes = append(clashes, list)
			}
		}
		seen[len(clashes) == 0]++
		if l, f := arrow.Clash(c); !slices.Equal(l, least(clashes)) || f != api.Fair {
			t.Fatal(c, l, clashes, f)
		}
		if l, f := arrow.Trust(c); !slices.Equal(l, least(trusts)) || f != api.Fair {
			t.Fatal(c, l, trusts, f)
		}
	}
	if len(seen) < 2 {
		t.Error("cards are not mixed enough", seen)
	}
}

// P1.10: shots fit just if each two of them do; Trust fits, and no more shots do; Clash does not fit.
func TestFitsByTwo(t *testing.T) {
	r := rand.New(rand.NewSource(9))
	for range 300 {
		c := randomCard(r, 2+r.Intn(7))
		two := true
		for i := range c.Shots {
			for j := range i {
				two = two && fits(t, only(c, []int{j, i}))
			}
		}
		if fits(t, c) != two {
			t.Fatal(c, two)
		}
		clash, f := arrow.Clash(c)
		if f != api.Fair || two != (len(clash) == 0) || !two && fits(t, only(c, clash)) {
			t.Fatal(c, clash, f)
		}
		var trusts [][]int
		most := 0
		for _, list := range subsets(len(c.Shots)) {
			if len(list) < most || !fits(t, only(c, list)) {
				continue
			}
			if len(list) > most {
				most, trusts = len(list), nil
			}
			trusts = append(trusts, list)
		}
		if l, f := arrow.Trust(c); !slices.Equal(l, least(trusts)) || f != api.Fair {
			t.Fatal(c, l, trusts, f)
		}
	}
}
